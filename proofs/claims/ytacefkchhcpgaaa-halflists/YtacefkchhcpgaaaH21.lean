/-
  What the law HalfLists returns.
-/
import Derived.Test.YtacefkchhcpgaaaH16
import Derived.Test.YtacefkchhcpgaaaH20
import Derived.Test.YtacefkchhcpgaaaH13
namespace Go.Proofs.Ytacefkchhcpgaaa
open Go.ChangeShapes Go.WideShapes Go.ChangeAt Go.RowKit
set_option linter.unusedVariables false
set_option linter.unusedSimpArgs false

/-- Half-edges of one's own whose lines are being spoilt: all below base stays. -/
structure Spl (base : Nat) (W0 : World) (a : Option Addr) (n cap : Nat) (es : List HR) (W : World) : Prop where
  below : Below base W0 W
  lst : LstH W a n cap es
  each : ∀ i, i < n → (es.getD i HR.z).n = 0 ∨ ∃ g off cur, (es.getD i HR.z).a = some ⟨g, off, none⟩ ∧ base ≤ g ∧ W.heap[g]? = some (.cells cur 44 (0, 0)) ∧ off + 4 * (es.getD i HR.z).n ≤ cur.size
theorem Spl.start {base : Nat} {W0 W : World} {a : Option Addr} {cap : Nat} {es : List HR} {hs : List HS} (b : Below base W0 W) (L : LstH W a hs.length cap es) (E : Ech base W es hs) : Spl base W0 a hs.length cap es W := by
  refine ⟨b, L, fun i hi => ?_⟩
  obtain ⟨a', c', e, O⟩ := E i hi
  rw [e]
  rcases O.lst.mem with ⟨e1, e2⟩ | ⟨g, off, cur, e1, hh, hc, _⟩
  · have := O.lst.le
    exact .inl (by show (hs.getD i HS.z).ls.length = 0; omega)
  · have := O.lst.le
    exact .inr ⟨g, off, cur, e1, O.new g off e1, hh, by show off + 4 * (hs.getD i HS.z).ls.length ≤ _; omega⟩
theorem Spl.later {base : Nat} {W0 W W' : World} {a : Option Addr} {n cap : Nat} {es : List HR} (S : Spl base W0 a n cap es W) (hb : base ≤ W.heap.size) (b : Below W.heap.size W W') : Spl base W0 a n cap es W' := by
  refine ⟨S.below.trans (b.mono hb), S.lst.below b, fun i hi => ?_⟩
  rcases S.each i hi with h | ⟨g, off, cur, e1, e2, e3, e4⟩
  · exact .inl h
  · exact .inr ⟨g, off, cur, e1, e2, (b.block g (row_lt e3)).trans e3, e4⟩
theorem Spl.set {base : Nat} {W0 W : World} {a : Option Addr} {n cap : Nat} {es : List HR} (S : Spl base W0 a n cap es W) {g : Nat} {cur : Array Value} (hg : base ≤ g) (hh : W.heap[g]? = some (.cells cur 44 (0, 0))) (k : Nat) (v : Value) : Spl base W0 a n cap es (W.setCell ⟨g, k, none⟩ v) := by
  refine ⟨S.below.setCell (p := ⟨g, k, none⟩) hg v, S.lst.of_block (fun q off e => ?_), fun i hi => ?_⟩
  · subst e
    exact set_far rfl (S.lst.ne_cells hh (by decide)) _ _
  · rcases S.each i hi with h | ⟨q, off, cur', e1, e2, e3, e4⟩
    · exact .inl h
    · by_cases e : q = g
      · subst e
        rw [hh] at e3
        cases e3
        exact .inr ⟨q, off, _, e1, e2, set_row hh k v, by rw [Array.size_setIfInBounds]; exact e4⟩
      · exact .inr ⟨q, off, cur', e1, e2, set_far e3 e _ _, e4⟩
theorem ints_slice {W : World} {base : Nat} {v : Value} {hs : List HS} (h : W.ownsRow base 3 1 v hs.length (hs.map fun x => iv x.peer)) : ∃ a cap, v = .slice a hs.length cap ∧ ∀ i, i < hs.length → ∃ g o, a = some ⟨g, o, none⟩ ∧ ∀ X, Below W.heap.size W X → X.cell? ⟨g, o + i, none⟩ = some (.int .i64 (hs.getD i HS.z).peer) := by
  rcases h.2 with ⟨rfl, h0⟩ | ⟨g, cap, cur, rfl, hg, hh, hnc, hc, hcs, ht⟩
  · exact ⟨none, 0, by rw [h0], fun i hi => by omega⟩
  · refine ⟨_, cap, rfl, fun i hi => ⟨g, 0, rfl, fun X b => ?_⟩⟩
    refine row_cell ((b.block g (row_lt hh)).trans hh) _ _ ?_
    have : (hs.map fun x => iv x.peer)[i]? = some (.int .i64 (hs.getD i HS.z).peer) := by
      rw [List.getElem?_map, List.getElem?_eq_getElem hi, List.getD_eq_getElem?_getD, List.getElem?_eq_getElem hi]; rfl
    rw [← ht, List.getElem?_take, if_pos (by omega)] at this
    rw [Nat.zero_add]
    simpa using this
theorem find_few {k : Int} {hs : List HS} (h : ∀ j, j < hs.length → (hs.getD j HS.z).ls.length * 40 ≤ 140737488355328) : (findH k hs).ls.length * 40 ≤ 140737488355328 := by
  unfold findH
  split
  · rename_i hh
    exact h _ (hit_lt hh)
  · show 0 * 40 ≤ _
    omega
theorem cell3 {W : World} {g off : Nat} {d : HR} (h : W.rangeAt g off d.cells) : W.cell? ⟨g, off + 3, none⟩ = some (.slice d.a d.n d.cap) := h 3 _ rfl
set_option maxRecDepth 100000 in
set_option maxHeartbeats 8000000 in
theorem lists_unfit (id : Int) (h : HS) (a : Option Addr) (c1 : Nat) (A : Option Addr) (c : Nat) (hs : List HS) (peer : Int) (w : World) (R0 : RdO w h a c1) (P0 : Hs w A hs.length c hs) (hno : fitsB id hs = false ∨ h.fit id = false) : Calls Try.prog 4 #[.int .i64 id, .slice A hs.length c, (h.on a c1).val, .int .i64 peer] w fun e w' => e = .returned (.bool true) ∧ Below w.heap.size w w' := by
  have BW : Below w.heap.size w (w.alloc (.cells #[.int .i64 h.peer, .int .i64 h.boot, .int .i64 h.life, .slice a h.ls.length c1, .bool h.pend, .int .i64 h.miss] 24)) := (Below.refl _ _).alloc (Nat.le_refl _) _
  have T : (w.alloc (.cells #[.int .i64 h.peer, .int .i64 h.boot, .int .i64 h.life, .slice a h.ls.length c1, .bool h.pend, .int .i64 h.miss] 24)).heap[w.heap.size]? = some (.cells (h.on a c1).cells.toArray 24 (0, 0)) := heap_new rfl
  have R : RdO (w.alloc (.cells #[.int .i64 h.peer, .int .i64 h.boot, .int .i64 h.life, .slice a h.ls.length c1, .bool h.pend, .int .i64 h.miss] 24)) h a c1 := RdL.below R0 BW
  have P := P0.below BW
  have K11 := rfits_any id A c hs (w.alloc (.cells #[.int .i64 h.peer, .int .i64 h.boot, .int .i64 h.life, .slice a h.ls.length c1, .bool h.pend, .int .i64 h.miss] 24)) P
  have K9 := fun W (b : Below (w.alloc (.cells #[.int .i64 h.peer, .int .i64 h.boot, .int .i64 h.life, .slice a h.ls.length c1, .bool h.pend, .int .i64 h.miss] 24)).heap.size (w.alloc (.cells #[.int .i64 h.peer, .int .i64 h.boot, .int .i64 h.life, .slice a h.ls.length c1, .bool h.pend, .int .i64 h.miss] 24)) W) => dfit_any id h a c1 W (RdL.below R b)
  cases hf : fitsB id hs with
  | false =>
    rw [hf] at K11
    clear hno hf R0 P0 K9
    rw [show (h.on a c1).val = .agg #[.int .i64 h.peer, .int .i64 h.boot, .int .i64 h.life, .slice a h.ls.length c1, .bool h.pend, .int .i64 h.miss] from rfl]
    go_enter Try.func4, Try.ntmps4
    go_wp2_with (first
      | (go_at_call 11; refine K11.mono ?_; rintro e w1 ⟨rfl, B1⟩; clear K11)
      | (go_at_call 15; refine (awake_any _).mono ?_; rintro e w2 ⟨rfl, b2⟩))
    go_ret
    exact ⟨rfl, (BW.trans (B1.mono BW.size)).trans (b2.mono (by have := BW.size; have := B1.size; omega))⟩
  | true =>
    have hx : h.fit id = false := hno.resolve_left (by rw [hf]; decide)
    rw [hf] at K11
    simp only [hx] at K9
    clear hno hf R0 P0 hx
    rw [show (h.on a c1).val = .agg #[.int .i64 h.peer, .int .i64 h.boot, .int .i64 h.life, .slice a h.ls.length c1, .bool h.pend, .int .i64 h.miss] from rfl]
    go_enter Try.func4, Try.ntmps4
    go_wp2_with (first
      | (go_at_call 11; refine K11.mono ?_; rintro e w1 ⟨rfl, B1⟩; clear K11; have TT := (B1.block _ (row_lt T)).trans T)
      | ((with_reducible show wpList _ _ _ (Oper.mk _ (Op.load 24 (Operand.tmp 6)) _ _ _ _ :: _) _ _); refine wpList_load24g (by rfl) rfl w.heap.size (h.on a c1) rfl TT ?_)
      | (go_at_call 9; refine (K9 _ B1).mono ?_; rintro e w3 ⟨rfl, b3⟩; clear K9)
      | (go_at_call 15; refine (awake_any _).mono ?_; rintro e w2 ⟨rfl, b2⟩))
    go_ret
    exact ⟨rfl, (BW.trans (B1.mono BW.size)).trans ((b3.mono (by have := BW.size; have := B1.size; omega)).trans (b2.mono (by have := BW.size; have := B1.size; have := b3.size; omega)))⟩
set_option maxRecDepth 100000 in
set_option maxHeartbeats 16000000 in
theorem lists_fit (id : Int) (h : HS) (a : Option Addr) (c1 : Nat) (A : Option Addr) (c : Nat) (hs : List HS) (peer : Int) (w : World) (R0 : RdO w h a c1) (P0 : Hs w A hs.length c hs) (hf : fitsB id hs = true) (hx : h.fit id = true) : Calls Try.prog 4 #[.int .i64 id, .slice A hs.length c, (h.on a c1).val, .int .i64 peer] w fun e w' => e = .returned (.bool true) ∧ Below w.heap.size w w' := by
  have BW : Below w.heap.size w (w.alloc (.cells #[.int .i64 h.peer, .int .i64 h.boot, .int .i64 h.life, .slice a h.ls.length c1, .bool h.pend, .int .i64 h.miss] 24)) := (Below.refl _ _).alloc (Nat.le_refl _) _
  have T : (w.alloc (.cells #[.int .i64 h.peer, .int .i64 h.boot, .int .i64 h.life, .slice a h.ls.length c1, .bool h.pend, .int .i64 h.miss] 24)).heap[w.heap.size]? = some (.cells (h.on a c1).cells.toArray 24 (0, 0)) := heap_new rfl
  have R : RdO (w.alloc (.cells #[.int .i64 h.peer, .int .i64 h.boot, .int .i64 h.life, .slice a h.ls.length c1, .bool h.pend, .int .i64 h.miss] 24)) h a c1 := RdL.below R0 BW
  have P := P0.below BW
  have hr := fits_rise hf
  have h16 := fits_few hf
  have hfl := fits_lines hf
  have K11 := rfits_any id A c hs (w.alloc (.cells #[.int .i64 h.peer, .int .i64 h.boot, .int .i64 h.life, .slice a h.ls.length c1, .bool h.pend, .int .i64 h.miss] 24)) P
  have K9 := fun W (b : Below (w.alloc (.cells #[.int .i64 h.peer, .int .i64 h.boot, .int .i64 h.life, .slice a h.ls.length c1, .bool h.pend, .int .i64 h.miss] 24)).heap.size (w.alloc (.cells #[.int .i64 h.peer, .int .i64 h.boot, .int .i64 h.life, .slice a h.ls.length c1, .bool h.pend, .int .i64 h.miss] 24)) W) => dfit_any id h a c1 W (RdL.below R b)
  have K14 := fun W (b : Below (w.alloc (.cells #[.int .i64 h.peer, .int .i64 h.boot, .int .i64 h.life, .slice a h.ls.length c1, .bool h.pend, .int .i64 h.miss] 24)).heap.size (w.alloc (.cells #[.int .i64 h.peer, .int .i64 h.boot, .int .i64 h.life, .slice a h.ls.length c1, .bool h.pend, .int .i64 h.miss] 24)) W) => rcopy_any A c hs W (P.below b)
  have K16 := fun W A' c' (H : Hs W A' hs.length c' hs) => find_any peer A' c' hs W H
  have K17 := fun W (b : Below (w.alloc (.cells #[.int .i64 h.peer, .int .i64 h.boot, .int .i64 h.life, .slice a h.ls.length c1, .bool h.pend, .int .i64 h.miss] 24)).heap.size (w.alloc (.cells #[.int .i64 h.peer, .int .i64 h.boot, .int .i64 h.life, .slice a h.ls.length c1, .bool h.pend, .int .i64 h.miss] 24)) W) => rfind_any peer A c hs W (P.below b) hr
  have K18 := fun W A' c' (H : Hs W A' hs.length c' hs) => drop_any peer A' c' hs W H
  have K19 := fun W (b : Below (w.alloc (.cells #[.int .i64 h.peer, .int .i64 h.boot, .int .i64 h.life, .slice a h.ls.length c1, .bool h.pend, .int .i64 h.miss] 24)).heap.size (w.alloc (.cells #[.int .i64 h.peer, .int .i64 h.boot, .int .i64 h.life, .slice a h.ls.length c1, .bool h.pend, .int .i64 h.miss] 24)) W) => rdrop_any peer A c hs W (P.below b) hr
  have K21 := fun W A' c' (b : Below (w.alloc (.cells #[.int .i64 h.peer, .int .i64 h.boot, .int .i64 h.life, .slice a h.ls.length c1, .bool h.pend, .int .i64 h.miss] 24)).heap.size (w.alloc (.cells #[.int .i64 h.peer, .int .i64 h.boot, .int .i64 h.life, .slice a h.ls.length c1, .bool h.pend, .int .i64 h.miss] 24)) W) (H : Hs W A' hs.length c' hs) => put_any h a c1 A' c' hs W (RdL.below R b) H (by omega)
  have K22 := fun W (b : Below (w.alloc (.cells #[.int .i64 h.peer, .int .i64 h.boot, .int .i64 h.life, .slice a h.ls.length c1, .bool h.pend, .int .i64 h.miss] 24)).heap.size (w.alloc (.cells #[.int .i64 h.peer, .int .i64 h.boot, .int .i64 h.life, .slice a h.ls.length c1, .bool h.pend, .int .i64 h.miss] 24)) W) => rput_any h a c1 A c hs W (RdL.below R b) (P.below b) hr (by omega)
  have HFF : Hid ((findH peer hs).ls.length * 40 ≤ 140737488355328) := find_few hfl
  obtain ⟨dl, df⟩ := drop_few (k := peer) hfl
  have pf := put_fits hf hx
  have p16 := fits_few pf
  have pl := fits_lines pf
  have HPH := fun base cap W es a' => put_hs (base := base) (cap := cap) (W := W) (es := es) (a := a') hf hx
  rw [hf] at K11
  simp only [hx] at K9
  obtain ⟨F, hF⟩ : ∃ F, findH peer hs = F := ⟨_, rfl⟩
  obtain ⟨b0, hb⟩ : ∃ b, hitH peer hs = b := ⟨_, rfl⟩
  obtain ⟨DD, hDD⟩ : ∃ D, dropH peer hs = D := ⟨_, rfl⟩
  obtain ⟨PP, hPP⟩ : ∃ P, putH h hs = P := ⟨_, rfl⟩
  simp only [hF, hb] at K16 K17
  simp only [hb, hDD] at K18 K19
  rw [hDD] at dl df
  simp only [hPP] at K21 K22 HPH
  rw [hPP] at p16 pl
  rw [hF] at HFF
  have hbb : (b0 != b0) = false := by simp
  have HSM : Hid (hs.length ≤ 16) := h16
  have HDL : Hid (DD.length * 64 ≤ 140737488355328) := by show _ ≤ _; omega
  have HDF : Hid (∀ j, j < DD.length → (DD.getD j HS.z).ls.length * 40 ≤ 140737488355328) := df
  have HPL : Hid (PP.length ≤ 16) := p16
  have HPF : Hid (∀ j, j < PP.length → (PP.getD j HS.z).ls.length * 40 ≤ 140737488355328) := pl
  have HPP : Hid (∀ j, j < PP.length → (PP.getD j HS.z).ls.length * 40 ≤ 140737488355328) := pl
  have kp0 : ∀ X, Below (w.alloc (.cells #[.int .i64 h.peer, .int .i64 h.boot, .int .i64 h.life, .slice a h.ls.length c1, .bool h.pend, .int .i64 h.miss] 24)).heap.size (w.alloc (.cells #[.int .i64 h.peer, .int .i64 h.boot, .int .i64 h.life, .slice a h.ls.length c1, .bool h.pend, .int .i64 h.miss] 24)) X → X.cell? ⟨w.heap.size, 0, none⟩ = some (.int .i64 h.peer) := fun X b => (b.cell (p := ⟨w.heap.size, 0, none⟩) (row_lt T)).trans (row_cell T 0 _ rfl)
  have kp1 : ∀ X, Below (w.alloc (.cells #[.int .i64 h.peer, .int .i64 h.boot, .int .i64 h.life, .slice a h.ls.length c1, .bool h.pend, .int .i64 h.miss] 24)).heap.size (w.alloc (.cells #[.int .i64 h.peer, .int .i64 h.boot, .int .i64 h.life, .slice a h.ls.length c1, .bool h.pend, .int .i64 h.miss] 24)) X → X.cell? ⟨w.heap.size, 1, none⟩ = some (.int .i64 h.boot) := fun X b => (b.cell (p := ⟨w.heap.size, 1, none⟩) (row_lt T)).trans (row_cell T 1 _ rfl)
  have kp2 : ∀ X, Below (w.alloc (.cells #[.int .i64 h.peer, .int .i64 h.boot, .int .i64 h.life, .slice a h.ls.length c1, .bool h.pend, .int .i64 h.miss] 24)).heap.size (w.alloc (.cells #[.int .i64 h.peer, .int .i64 h.boot, .int .i64 h.life, .slice a h.ls.length c1, .bool h.pend, .int .i64 h.miss] 24)) X → X.cell? ⟨w.heap.size, 2, none⟩ = some (.int .i64 h.life) := fun X b => (b.cell (p := ⟨w.heap.size, 2, none⟩) (row_lt T)).trans (row_cell T 2 _ rfl)
  clear hF hb hDD hPP dl df pf p16 pl hf hx hr h16 hfl R0 P0
  rw [show (h.on a c1).val = .agg #[.int .i64 h.peer, .int .i64 h.boot, .int .i64 h.life, .slice a h.ls.length c1, .bool h.pend, .int .i64 h.miss] from rfl]
  go_enter Try.func4, Try.ntmps4
  go_wp2_with (first
    | (go_at_call 11; refine K11.mono ?_; rintro e w1 ⟨rfl, B1⟩; clear K11; have TT := (B1.block _ (row_lt T)).trans T)
    | ((with_reducible show wpList _ _ _ (Oper.mk _ (Op.load 24 (Operand.tmp 6)) _ _ _ _ :: _) _ _); refine wpList_load24g (by rfl) rfl w.heap.size (h.on a c1) rfl TT ?_)
    | (go_at_call 9; refine (K9 _ B1).mono ?_; rintro e w2 ⟨rfl, b2⟩; clear K9 TT; have B2 := B1.trans (b2.mono B1.size))
    | (go_at_call 14; refine (K14 _ B2).mono ?_; rintro e w3 ⟨⟨a3, c3, rfl, H3⟩, b3⟩; clear K14; have B3 := B2.trans (b3.mono B2.size))
    | (go_at_call 16; refine (K16 _ _ _ H3).mono ?_; rintro e w4 ⟨a4, c4, rfl, O4, b4⟩; clear K16; dsimp only [HS.on, HR.val]; have B4 := B3.trans (b4.mono B3.size); have bA : Below w4.heap.size w4 (w4.alloc (.cells #[.int .i64 F.peer, .int .i64 F.boot, .int .i64 F.life, .slice a4 F.ls.length c4, .bool F.pend, .int .i64 F.miss] 24)) := (Below.refl _ _).alloc (Nat.le_refl _) _; have B4' := B4.trans (bA.mono B4.size); have T4 : (w4.alloc (.cells #[.int .i64 F.peer, .int .i64 F.boot, .int .i64 F.life, .slice a4 F.ls.length c4, .bool F.pend, .int .i64 F.miss] 24)).heap[w4.heap.size]? = some (.cells (F.on a4 c4).cells.toArray 24 (0, 0)) := heap_new rfl)
    | (go_at_call 17; refine (K17 _ B4').mono ?_; rintro e w5 ⟨a5, c5, rfl, O5, b5⟩; clear K17; dsimp only [HS.on, HR.val]; have B5 := B4'.trans (b5.mono B4'.size); have bB : Below w5.heap.size w5 (w5.alloc (.cells #[.int .i64 F.peer, .int .i64 F.boot, .int .i64 F.life, .slice a5 F.ls.length c5, .bool F.pend, .int .i64 F.miss] 24)) := (Below.refl _ _).alloc (Nat.le_refl _) _; have B5' := B5.trans (bB.mono B5.size); have T5 : (w5.alloc (.cells #[.int .i64 F.peer, .int .i64 F.boot, .int .i64 F.life, .slice a5 F.ls.length c5, .bool F.pend, .int .i64 F.miss] 24)).heap[w5.heap.size]? = some (.cells (F.on a5 c5).cells.toArray 24 (0, 0)) := heap_new rfl; have H5 := ((H3.below b4).below bA).below (b5.trans (bB.mono b5.size)))
    | (go_at_call 18; refine (K18 _ _ _ H5).mono ?_; rintro e w6 ⟨a6, c6, rfl, H6, b6⟩; clear K18; have B6 := B5'.trans (b6.mono B5'.size))
    | (go_at_call 19; refine (K19 _ B6).mono ?_; rintro e w7 ⟨v7, es7, rfl, C7⟩; clear K19; obtain ⟨a7, c7, e7, H7⟩ := C7.hs HDL.out HDF.out; subst e7; have B7 := B6.trans (C7.below.mono B6.size); have b57 : Below (w5.alloc (.cells #[.int .i64 F.peer, .int .i64 F.boot, .int .i64 F.life, .slice a5 F.ls.length c5, .bool F.pend, .int .i64 F.miss] 24)).heap.size (w5.alloc (.cells #[.int .i64 F.peer, .int .i64 F.boot, .int .i64 F.life, .slice a5 F.ls.length c5, .bool F.pend, .int .i64 F.miss] 24)) w7 := b6.trans (C7.below.mono b6.size); have T5' := (b57.block _ (row_lt T5)).trans T5; have T4' := (b57.block _ (Nat.lt_of_lt_of_le (row_lt T4) (b5.trans (bB.mono b5.size)).size)).trans (((b5.trans (bB.mono b5.size)).block _ (row_lt T4)).trans T4))
    | ((with_reducible show wpList _ _ _ (Oper.mk _ (Op.load 24 (Operand.tmp 10)) _ _ _ _ :: _) _ _); refine wpList_load24 rfl _ rfl w4.heap.size 0 (F.on a4 c4) rfl (range_rowH T4') ?_)
    | ((with_reducible show wpList _ _ _ (Oper.mk _ (Op.load 24 (Operand.tmp 12)) _ _ _ _ :: _) _ _); refine wpList_load24 rfl _ rfl w5.heap.size 0 (F.on a5 c5) rfl (range_rowH T5') ?_)
    | (go_at_call 20; refine (sone_any F F a4 a5 c4 c5 _ (RdL.below (RdL.below (O4.rd HFF.out) bA) ((b5.trans (bB.mono b5.size)).trans (b57.mono (b5.trans (bB.mono b5.size)).size))) (RdL.below (O5.rd HFF.out) (bB.trans (b57.mono bB.size)))).mono ?_; rintro e w8 ⟨rfl, b8⟩; rw [eq1_self]; have B8 := B7.trans (b8.mono B7.size); have H8 := (H6.below C7.below).below b8; have H8' := H7.below b8)
    | (go_at_call 13; refine (rsame_any a6 a7 c6 c7 DD DD _ H8 H8').mono ?_; rintro e w9 ⟨rfl, b9⟩; rw [eqHs_self]; have B9 := B8.trans (b9.mono B8.size); have TT := (B9.block _ (row_lt T)).trans T; have H9 := (((H5.below b57)).below b8).below b9; clear H8 H8')
    | (go_at_call 21; refine (K21 _ _ _ B9 H9).mono ?_; rintro e w10 ⟨a10, c10, es10, rfl, L10, E10, N10, b10⟩; clear K21))
  have B10 := B9.trans (b10.mono B9.size)
  have H10 := HPH _ _ _ _ _ E10 L10
  have HO := H9.below b10
  have T10 := (b10.block _ (row_lt TT)).trans TT
  have HB9 : Hid (Below (w.alloc (.cells #[.int .i64 h.peer, .int .i64 h.boot, .int .i64 h.life, .slice a h.ls.length c1, .bool h.pend, .int .i64 h.miss] 24)).heap.size (w.alloc (.cells #[.int .i64 h.peer, .int .i64 h.boot, .int .i64 h.life, .slice a h.ls.length c1, .bool h.pend, .int .i64 h.miss] 24)) w9) := B9
  have HLL : Hid (LstH w10 a10 PP.length c10 es10) := L10
  have HEE : Hid (Ech w9.heap.size w10 es10 PP) := E10
  have HH9 : Hid (Hs w9 a3 hs.length c3 hs) := H9
  have Hb10 : Hid (Below w9.heap.size w9 w10) := b10
  have kq0 : ∀ X, Below w10.heap.size w10 X → X.cell? ⟨w.heap.size, 0, none⟩ = some (.int .i64 h.peer) := fun X b => kp0 _ (B10.trans (b.mono B10.size))
  have kq1 : ∀ X, Below w10.heap.size w10 X → X.cell? ⟨w.heap.size, 1, none⟩ = some (.int .i64 h.boot) := fun X b => kp1 _ (B10.trans (b.mono B10.size))
  have kq2 : ∀ X, Below w10.heap.size w10 X → X.cell? ⟨w.heap.size, 2, none⟩ = some (.int .i64 h.life) := fun X b => kp2 _ (B10.trans (b.mono B10.size))
  clear L10 E10 N10 H9 b10 B9 TT HPH B1 B2 B3 B4 B4' B5 B5' B6 B7 B8 b2 b3 b4 b5 b6 b8 b9 bA bB b57 T4 T4' T5 T5' O4 O5 H3 H5 H6 H7 C7 kp0 kp1 kp2 hbb
  go_wp2_with (fail)
  refine wp_region_any (by kernel_rfl) ?_
  change wpAny _ _ _ _ _ _ _ (World.drew _)
  refine wpAny_narrow (fun W' => Below w10.heap.size w10 W') _ _ _ _ ?_
  refine anyH_take 0 84 (.slice a10 PP.length c10) rfl rfl (by kernel_rfl) (by kernel_rfl) (by kernel_rfl) (fun _ _ _ h => h) (Or.inl ⟨by rfl, by intro w hSw; go_simp⟩) ((Below.refl _ _).drew) ?_
  try simp only [Act.put, List.setIfInBounds_toArray, List.set_cons_zero, List.set_cons_succ]
  refine anyH_take 1 85 (.slice A hs.length c) rfl rfl (by kernel_rfl) (by kernel_rfl) (by kernel_rfl) (fun _ _ _ h => h) (Or.inl ⟨by rfl, by intro w hSw; go_simp⟩) ((Below.refl _ _).drew) ?_
  try simp only [Act.put, List.setIfInBounds_toArray, List.set_cons_zero, List.set_cons_succ]
  refine anyH_take 2 86 ((h.on a c1).val) rfl rfl (by kernel_rfl) (by kernel_rfl) (by kernel_rfl) (fun _ _ _ h => h) (Or.inl ⟨by rfl, fun X hSw => exec_load24 rfl w.heap.size 0 (h.on a c1) rfl (range_rowH ((hSw.block _ (row_lt T10)).trans T10))⟩) ((Below.refl _ _).drew) ?_
  try simp only [Act.put, List.setIfInBounds_toArray, List.set_cons_zero, List.set_cons_succ]
  refine wpAnyH_ready (rs := [3]) (by kernel_rfl) (by simp) ?_
  refine AllReadyH.cons rfl (fun K hK => ?_) AllReadyH.nil
  go_simp
  go_wp2_with (go_at_call 22; refine (K22 _ (B10.trans ((Below.refl _ _).drew.mono B10.size))).mono ?_; rintro e w11 ⟨v11, es11, rfl, C11⟩; obtain ⟨a11, c11, e11, H11⟩ := C11.hs (by have := HPL.out; omega) HPF.out; subst e11; have b11 : Below w10.heap.size w10 w11 := (Below.refl _ _).drew.trans C11.below; clear K22 C11)
  refine hK.out _ _ (b11) (fun hS => ?_)
  clear hK
  refine wpAnyH_ready (rs := [4]) (by kernel_rfl) (by simp) ?_
  refine AllReadyH.cons rfl (fun K hK => ?_) AllReadyH.nil
  go_simp
  go_wp2_with (go_at_call 13; refine (rsame_any a10 a11 c10 c11 PP PP _ (H10.below b11) H11).mono ?_; rintro e w12 ⟨rfl, b12⟩; rw [eqHs_self])
  refine hK.out _ _ (hS.trans (b12.mono hS.size)) (fun hS => ?_)
  clear hK
  refine anyH_take 5 89 (.bool false) rfl rfl (by kernel_rfl) (by kernel_rfl) (by kernel_rfl) (fun _ _ _ h => h) (Or.inl ⟨by rfl, by intro w hSw; go_simp⟩) (hS) ?_
  try simp only [Act.put, List.setIfInBounds_toArray, List.set_cons_zero, List.set_cons_succ]
  refine anyH_take 6 90 (.bool false) rfl rfl (by kernel_rfl) (by kernel_rfl) (by kernel_rfl) (fun _ _ _ h => h) (Or.inl ⟨by rfl, by intro w hSw; go_simp⟩) (hS) ?_
  try simp only [Act.put, List.setIfInBounds_toArray, List.set_cons_zero, List.set_cons_succ]
  refine anyH_take 7 91 (.slice a3 hs.length c3) rfl rfl (by kernel_rfl) (by kernel_rfl) (by kernel_rfl) (fun _ _ _ h => h) (Or.inl ⟨by rfl, by intro w hSw; go_simp⟩) (hS) ?_
  try simp only [Act.put, List.setIfInBounds_toArray, List.set_cons_zero, List.set_cons_succ]
  refine anyH_take 9 93 (.slice A hs.length c) rfl rfl (by kernel_rfl) (by kernel_rfl) (by kernel_rfl) (fun _ _ _ h => h) (Or.inl ⟨by rfl, by intro w hSw; go_simp⟩) (hS) ?_
  try simp only [Act.put, List.setIfInBounds_toArray, List.set_cons_zero, List.set_cons_succ]
  have hS5 := hS
  refine wpAnyH_ready (rs := [8]) (by kernel_rfl) (by simp) ?_
  refine AllReadyH.cons rfl (fun K hK => ?_) AllReadyH.nil
  go_simp
  go_wp2_with (go_at_call 23; refine (hcopy_any a3 c3 hs _ (HO.below hS)).mono ?_; rintro e w14 ⟨v14, es14, rfl, C14⟩; obtain ⟨a14, c14, e14, H14⟩ := C14.hs (by have := HSM.out; omega) HO.few; subst e14; have b14 := C14.below; clear C14)
  refine hK.out _ _ (hS.trans (b14.mono hS.size)) (fun hS => ?_)
  clear hK
  refine wpAnyH_ready (rs := [10]) (by kernel_rfl) (by simp) ?_
  refine AllReadyH.cons rfl (fun K hK => ?_) AllReadyH.nil
  go_simp
  go_wp2_with (go_at_call 13; refine (rsame_any a14 A c14 c hs hs _ H14 (P.below (B10.trans (hS.mono B10.size)))).mono ?_; rintro e w15 ⟨rfl, b15⟩; rw [eqHs_self])
  refine hK.out _ _ (hS.trans (b15.mono hS.size)) (fun hS => ?_)
  clear hK
  refine anyH_take 11 95 (.bool false) rfl rfl (by kernel_rfl) (by kernel_rfl) (by kernel_rfl) (fun _ _ _ h => h) (Or.inl ⟨by rfl, by intro w hSw; go_simp⟩) (hS) ?_
  try simp only [Act.put, List.setIfInBounds_toArray, List.set_cons_zero, List.set_cons_succ]
  refine anyH_take 12 96 (.bool false) rfl rfl (by kernel_rfl) (by kernel_rfl) (by kernel_rfl) (fun _ _ _ h => h) (Or.inl ⟨by rfl, by intro w hSw; go_simp⟩) (hS) ?_
  try simp only [Act.put, List.setIfInBounds_toArray, List.set_cons_zero, List.set_cons_succ]
  refine anyH_take 13 97 (.bool false) rfl rfl (by kernel_rfl) (by kernel_rfl) (by kernel_rfl) (fun _ _ _ h => h) (Or.inl ⟨by rfl, by intro w hSw; go_simp⟩) (hS) ?_
  try simp only [Act.put, List.setIfInBounds_toArray, List.set_cons_zero, List.set_cons_succ]
  refine anyH_take 14 98 (.pointer (some ⟨w.heap.size, 0, none⟩)) rfl rfl (by kernel_rfl) (by kernel_rfl) (by kernel_rfl) (fun _ _ _ h => h) (Or.inl ⟨by rfl, by intro w hSw; go_simp⟩) (hS) ?_
  try simp only [Act.put, List.setIfInBounds_toArray, List.set_cons_zero, List.set_cons_succ]
  refine anyH_take 15 99 (.int .i64 h.peer) rfl rfl (by kernel_rfl) (by kernel_rfl) (by kernel_rfl) (fun _ _ _ h => h) (Or.inl ⟨by rfl, by intro w hSw; have s1 := kq0 _ hSw; go_simp⟩) (hS) ?_
  try simp only [Act.put, List.setIfInBounds_toArray, List.set_cons_zero, List.set_cons_succ]
  refine anyH_take 16 100 (.pointer (some ⟨w.heap.size, 1, none⟩)) rfl rfl (by kernel_rfl) (by kernel_rfl) (by kernel_rfl) (fun _ _ _ h => h) (Or.inl ⟨by rfl, by intro w hSw; go_simp⟩) (hS) ?_
  try simp only [Act.put, List.setIfInBounds_toArray, List.set_cons_zero, List.set_cons_succ]
  refine anyH_take 17 101 (.int .i64 h.boot) rfl rfl (by kernel_rfl) (by kernel_rfl) (by kernel_rfl) (fun _ _ _ h => h) (Or.inl ⟨by rfl, by intro w hSw; have s1 := kq1 _ hSw; go_simp⟩) (hS) ?_
  try simp only [Act.put, List.setIfInBounds_toArray, List.set_cons_zero, List.set_cons_succ]
  refine anyH_take 18 102 (.pointer (some ⟨w.heap.size, 2, none⟩)) rfl rfl (by kernel_rfl) (by kernel_rfl) (by kernel_rfl) (fun _ _ _ h => h) (Or.inl ⟨by rfl, by intro w hSw; go_simp⟩) (hS) ?_
  try simp only [Act.put, List.setIfInBounds_toArray, List.set_cons_zero, List.set_cons_succ]
  refine anyH_take 19 103 (.int .i64 h.life) rfl rfl (by kernel_rfl) (by kernel_rfl) (by kernel_rfl) (fun _ _ _ h => h) (Or.inl ⟨by rfl, by intro w hSw; have s1 := kq2 _ hSw; go_simp⟩) (hS) ?_
  try simp only [Act.put, List.setIfInBounds_toArray, List.set_cons_zero, List.set_cons_succ]
  refine anyH_take 21 105 (.pointer (some ⟨w.heap.size, 0, none⟩)) rfl rfl (by kernel_rfl) (by kernel_rfl) (by kernel_rfl) (fun _ _ _ h => h) (Or.inl ⟨by rfl, by intro w hSw; go_simp⟩) (hS) ?_
  try simp only [Act.put, List.setIfInBounds_toArray, List.set_cons_zero, List.set_cons_succ]
  refine anyH_take 22 106 (.int .i64 h.peer) rfl rfl (by kernel_rfl) (by kernel_rfl) (by kernel_rfl) (fun _ _ _ h => h) (Or.inl ⟨by rfl, by intro w hSw; have s1 := kq0 _ hSw; go_simp⟩) (hS) ?_
  try simp only [Act.put, List.setIfInBounds_toArray, List.set_cons_zero, List.set_cons_succ]
  refine anyH_take 23 107 (.pointer (some ⟨w.heap.size, 1, none⟩)) rfl rfl (by kernel_rfl) (by kernel_rfl) (by kernel_rfl) (fun _ _ _ h => h) (Or.inl ⟨by rfl, by intro w hSw; go_simp⟩) (hS) ?_
  try simp only [Act.put, List.setIfInBounds_toArray, List.set_cons_zero, List.set_cons_succ]
  refine anyH_take 24 108 (.int .i64 h.boot) rfl rfl (by kernel_rfl) (by kernel_rfl) (by kernel_rfl) (fun _ _ _ h => h) (Or.inl ⟨by rfl, by intro w hSw; have s1 := kq1 _ hSw; go_simp⟩) (hS) ?_
  try simp only [Act.put, List.setIfInBounds_toArray, List.set_cons_zero, List.set_cons_succ]
  refine anyH_take 25 109 (.pointer (some ⟨w.heap.size, 2, none⟩)) rfl rfl (by kernel_rfl) (by kernel_rfl) (by kernel_rfl) (fun _ _ _ h => h) (Or.inl ⟨by rfl, by intro w hSw; go_simp⟩) (hS) ?_
  try simp only [Act.put, List.setIfInBounds_toArray, List.set_cons_zero, List.set_cons_succ]
  refine anyH_take 26 110 (.int .i64 h.life) rfl rfl (by kernel_rfl) (by kernel_rfl) (by kernel_rfl) (fun _ _ _ h => h) (Or.inl ⟨by rfl, by intro w hSw; have s1 := kq2 _ hSw; go_simp⟩) (hS) ?_
  try simp only [Act.put, List.setIfInBounds_toArray, List.set_cons_zero, List.set_cons_succ]
  refine wpAnyH_ready (rs := [20]) (by kernel_rfl) (by simp) ?_
  refine AllReadyH.cons rfl (fun K hK => ?_) AllReadyH.nil
  go_simp
  go_wp2_with (go_at_call 24; refine (begin_any h.peer h.boot h.life _).mono ?_; rintro e w16 ⟨rfl, b16⟩)
  refine hK.out _ _ (hS.trans (b16.mono hS.size)) (fun hS => ?_)
  clear hK
  refine wpAnyH_ready (rs := [27]) (by kernel_rfl) (by simp) ?_
  refine AllReadyH.cons rfl (fun K hK => ?_) AllReadyH.nil
  go_simp
  go_wp2_with (go_at_call 25; refine (rbegin_any h.peer h.boot h.life _).mono ?_; rintro e w18 ⟨rfl, b18⟩)
  refine hK.out _ _ (hS.trans (b18.mono hS.size)) (fun hS => ?_)
  clear hK
  refine wpAnyH_ready (rs := [28]) (by kernel_rfl) (by simp) ?_
  refine AllReadyH.cons rfl (fun K hK => ?_) AllReadyH.nil
  go_simp
  go_wp2_with (go_at_call 20; refine (sone_any (HS.mk h.peer h.boot h.life [] false 0) (HS.mk h.peer h.boot h.life [] false 0) none none 0 0 _ (rdL_nil _) (rdL_nil _)).mono ?_; rintro e w17 ⟨rfl, b17⟩; rw [eq1_self])
  refine hK.out _ _ (hS.trans (b17.mono hS.size)) (fun hS => ?_)
  clear hK
  refine anyH_take 29 113 (.bool false) rfl rfl (by kernel_rfl) (by kernel_rfl) (by kernel_rfl) (fun _ _ _ h => h) (Or.inl ⟨by rfl, by intro w hSw; go_simp⟩) (hS) ?_
  try simp only [Act.put, List.setIfInBounds_toArray, List.set_cons_zero, List.set_cons_succ]
  refine anyH_take 30 114 (.bool false) rfl rfl (by kernel_rfl) (by kernel_rfl) (by kernel_rfl) (fun _ _ _ h => h) (Or.inl ⟨by rfl, by intro w hSw; go_simp⟩) (hS) ?_
  try simp only [Act.put, List.setIfInBounds_toArray, List.set_cons_zero, List.set_cons_succ]
  refine wpAnyH_done (by kernel_rfl) ?_ _
  clear b18
  have HS11 : Hid (Below w10.heap.size w10 w17) := hS
  clear kq0 kq1 kq2 hS hS5 T10 b11 b12 b15 b14 b16 b17 H10 H11 H14
  have P17 : Hs w17 A hs.length c hs := P.below (B10.trans (HS11.out.mono B10.size))
  have HO17 : Hs w17 a3 hs.length c3 hs := HO.below HS11.out
  go_wp2_with (first
    | (go_at_call 26; refine (peers_any a3 c3 hs _ HO17).mono ?_; rintro e w18 ⟨v18, rfl, O18, b18⟩)
    | (go_at_call 27; refine (rpeers_any A c hs _ (P17.below b18)).mono ?_; rintro e w19 ⟨v19, rfl, O19, b19⟩; obtain ⟨p18, cp18, rfl, Q18⟩ := ints_slice (owns_later O18 b19); obtain ⟨p19, cp19, rfl, Q19⟩ := ints_slice O19))
  have B19 : Below w10.heap.size w10 w19 := (HS11.out.trans (b18.mono HS11.out.size)).trans (b19.mono (Nat.le_trans HS11.out.size b18.size))
  clear O18 O19 b18 b19 P17 HO17
  go_loopg [21] hs.length (fun gk v21 wr => ∃ i : Nat, v21 = .int .i64 (i : Int) ∧ i + gk = hs.length ∧ Below w19.heap.size w19 wr)
  case atStart => exact ⟨0, by first | rfl | go_num, by omega, Below.refl _ _⟩
  case round =>
    obtain ⟨i, rfl, hgk, Br⟩ := hrel
    by_cases hi : i < hs.length
    case pos =>
      have hiI : (i : Int) < (hs.length : Int) := by omega
      have hwr : IntKind.i64.wrap ((i : Int) + 1) = (i : Int) + 1 := by rw [IntKind.wrap_i64]; have := HSM.out; omega
      obtain ⟨g1, o1, rfl, q1⟩ := Q18 i hi
      obtain ⟨g2, o2, rfl, q2⟩ := Q19 i hi
      obtain ⟨y, hy⟩ : ∃ y, (hs.getD i HS.z).peer = y := ⟨_, rfl⟩
      rw [hy] at q1 q2
      clear hy
      have kc1 : ∀ X, Below wr.heap.size wr X → X.cell? ⟨g1, o1 + i, none⟩ = some (.int .i64 y) := fun X b => q1 X (Br.trans (b.mono Br.size))
      have kc2 : ∀ X, Below wr.heap.size wr X → X.cell? ⟨g2, o2 + i, none⟩ = some (.int .i64 y) := fun X b => q2 X (Br.trans (b.mono Br.size))
      clear q1 q2
      go_wp2_with (fail)
      refine wp_region_any (by kernel_rfl) ?_
      change wpAny _ _ _ _ _ _ _ (World.drew _)
      refine wpAny_narrow (fun W' => Below wr.heap.size wr W') _ _ _ _ ?_
      refine anyH_take 0 130 (.slice (some ⟨g1, o1, none⟩) hs.length cp18) rfl rfl (by kernel_rfl) (by kernel_rfl) (by kernel_rfl) (fun _ _ _ h => h) (Or.inl ⟨by rfl, by intro w hSw; go_simp⟩) ((Below.refl _ _).drew) ?_
      try simp only [Act.put, List.setIfInBounds_toArray, List.set_cons_zero, List.set_cons_succ]
      refine anyH_take 1 131 (.int .i64 (i : Int)) rfl rfl (by kernel_rfl) (by kernel_rfl) (by kernel_rfl) (fun _ _ _ h => h) (Or.inl ⟨by rfl, by intro w hSw; go_simp⟩) ((Below.refl _ _).drew) ?_
      try simp only [Act.put, List.setIfInBounds_toArray, List.set_cons_zero, List.set_cons_succ]
      refine anyH_take 2 132 (.pointer (some ⟨g1, o1 + i, none⟩)) rfl rfl (by kernel_rfl) (by kernel_rfl) (by kernel_rfl) (fun _ _ _ h => h) (Or.inl ⟨by rfl, by intro w hSw; go_simp⟩) ((Below.refl _ _).drew) ?_
      try simp only [Act.put, List.setIfInBounds_toArray, List.set_cons_zero, List.set_cons_succ]
      refine anyH_take 3 133 (.int .i64 y) rfl rfl (by kernel_rfl) (by kernel_rfl) (by kernel_rfl) (fun _ _ _ h => h) (Or.inl ⟨by rfl, by intro w hSw; have s1 := kc1 _ hSw; go_simp⟩) ((Below.refl _ _).drew) ?_
      try simp only [Act.put, List.setIfInBounds_toArray, List.set_cons_zero, List.set_cons_succ]
      refine anyH_take 4 134 (.slice (some ⟨g2, o2, none⟩) hs.length cp19) rfl rfl (by kernel_rfl) (by kernel_rfl) (by kernel_rfl) (fun _ _ _ h => h) (Or.inl ⟨by rfl, by intro w hSw; go_simp⟩) ((Below.refl _ _).drew) ?_
      try simp only [Act.put, List.setIfInBounds_toArray, List.set_cons_zero, List.set_cons_succ]
      refine anyH_take 5 135 (.int .i64 (i : Int)) rfl rfl (by kernel_rfl) (by kernel_rfl) (by kernel_rfl) (fun _ _ _ h => h) (Or.inl ⟨by rfl, by intro w hSw; go_simp⟩) ((Below.refl _ _).drew) ?_
      try simp only [Act.put, List.setIfInBounds_toArray, List.set_cons_zero, List.set_cons_succ]
      refine anyH_take 6 136 (.pointer (some ⟨g2, o2 + i, none⟩)) rfl rfl (by kernel_rfl) (by kernel_rfl) (by kernel_rfl) (fun _ _ _ h => h) (Or.inl ⟨by rfl, by intro w hSw; go_simp⟩) ((Below.refl _ _).drew) ?_
      try simp only [Act.put, List.setIfInBounds_toArray, List.set_cons_zero, List.set_cons_succ]
      refine anyH_take 7 137 (.int .i64 y) rfl rfl (by kernel_rfl) (by kernel_rfl) (by kernel_rfl) (fun _ _ _ h => h) (Or.inl ⟨by rfl, by intro w hSw; have s1 := kc2 _ hSw; go_simp⟩) ((Below.refl _ _).drew) ?_
      try simp only [Act.put, List.setIfInBounds_toArray, List.set_cons_zero, List.set_cons_succ]
      refine anyH_take 8 138 (.bool false) rfl rfl (by kernel_rfl) (by kernel_rfl) (by kernel_rfl) (fun _ _ _ h => h) (Or.inl ⟨by rfl, by intro w hSw; go_simp⟩) ((Below.refl _ _).drew) ?_
      try simp only [Act.put, List.setIfInBounds_toArray, List.set_cons_zero, List.set_cons_succ]
      refine wpAnyH_done (by kernel_rfl) ?_ _
      go_wp2
      go_roundg (gk - 1)
      case measure => omega
      case rel => exact ⟨i + 1, by first | rfl | go_num, by omega, Br.drew⟩
    case neg =>
      have hiI : ¬ (i : Int) < (hs.length : Int) := by omega
      clear hi hgk
      have b9r : Below w9.heap.size w9 wr := (Hb10.out.trans (B19.mono Hb10.out.size)).trans (Br.mono (Nat.le_trans Hb10.out.size B19.size))
      have b10r : Below w10.heap.size w10 wr := B19.trans (Br.mono B19.size)
      have S0 : Spl w9.heap.size w9 a10 PP.length c10 es10 wr := Spl.start b9r (HLL.out.below b10r) (HEE.out.below b10r)
      have hz9 : w9.heap.size ≤ wr.heap.size := b9r.size
      have HZ9 : Hid (w9.heap.size ≤ wr.heap.size) := hz9
      have HES : Hid (es10.length = PP.length) := HLL.out.size
      clear b9r b10r B19 Q18 Q19 Br
      rename World => w20
      go_wp2_with (fail)
      go_loopg [22, 23] PP.length (fun gk v22 v23 wr => ∃ i : Nat, v22 = .int .i64 (i : Int) ∧ i + gk = PP.length ∧ Spl w9.heap.size w9 a10 PP.length c10 es10 wr)
      case atStart => exact ⟨0, by first | rfl | go_num, by omega, S0⟩
      case round =>
        obtain ⟨i, rfl, hgk, Sr⟩ := hrel
        by_cases hi : i < PP.length
        case pos =>
          have HI : Hid (i < PP.length) := hi
          have hiI : (i : Int) < (PP.length : Int) := by omega
          have hwr : IntKind.i64.wrap ((i : Int) + 1) = (i : Int) + 1 := by rw [IntKind.wrap_i64]; have := HPL.out; omega
          have HGK : Hid (i + gk = PP.length) := hgk
          clear hi hgk
          obtain ⟨gP, oP, rfl, kP, dP, rP⟩ := (Sr.lst.rd (by have := HPL.out; omega)).at i HI.out
          obtain ⟨⟨pe, bo, li, ea, en, ec, pd, mi⟩, he⟩ : ∃ e, es10.getD i HR.z = e := ⟨_, rfl⟩
          have HEE2 : Hid (es10.getD i HR.z = ⟨pe, bo, li, ea, en, ec, pd, mi⟩) := he
          have hen : en ≤ 140737488355328 := by
            obtain ⟨a', c', e', _⟩ := HEE.out i HI.out
            rw [he] at e'
            have h1 : en = (PP.getD i HS.z).ls.length := congrArg HR.n e'
            have := HPP.out i HI.out
            omega
          have HEN : Hid (en ≤ 140737488355328) := hen
          clear hen he rP kP dP
          rename World => wro
          have hro : gk = gk := rfl
          obtain ⟨gko, hgko⟩ : ∃ g : Nat, g = gk := ⟨_, rfl⟩
          rw [← hgko] at HGK hro
          go_wp2_with (fail)
          go_loopg [23] en (fun gk v23 wr => ∃ j : Nat, v23 = .int .i64 (j : Int) ∧ j + gk = en ∧ Spl w9.heap.size w9 (some ⟨gP, oP, none⟩) PP.length c10 es10 wr)
          case atStart => exact ⟨0, by first | rfl | go_num, by omega, Sr⟩
          case round =>
            obtain ⟨j, rfl, hgj, Sj⟩ := hrel
            have rP : wr.cell? ⟨gP, oP + i * 6 + 3, none⟩ = some (.slice ea en ec) := by
              obtain ⟨g', o', e', _, _, r'⟩ := (Sj.lst.rd (by have := HPL.out; omega)).at i HI.out
              cases e'
              rw [HEE2.out] at r'
              exact cell3 r'
            by_cases hj : j < en
            case pos =>
              have hjI : (j : Int) < (en : Int) := by omega
              have hwj : IntKind.i64.wrap ((j : Int) + 1) = (j : Int) + 1 := by rw [IntKind.wrap_i64]; have := HEN.out; omega
              have hE := Sj.each i HI.out
              rw [HEE2.out] at hE
              rcases hE with h0 | ⟨g2, o2, cur, e1, e2, e3, e4⟩
              · have h0' : en = 0 := h0
                omega
              · have e1' : ea = some ⟨g2, o2, none⟩ := e1
                have e4' : o2 + 4 * en ≤ cur.size := e4
                subst e1'
                have hlt : o2 + j * 4 < cur.size := by omega
                have c9 : wr.cell? ⟨g2, o2 + j * 4, none⟩ = some (cur[o2 + j * 4]'hlt) := row_cell e3 _ _ (Array.getElem?_eq_getElem hlt)
                have f9 : wr.frozen? ⟨g2, o2 + j * 4, none⟩ = false := row_free e3 _
                have S9 := Sj.set e2 e3 (o2 + j * 4) (.string { data := #[115, 112, 111, 105, 108, 116] })
                clear e1 e4 e4' e3
                go_wp2
                go_roundg (gk - 1)
                case measure => omega
                case rel => exact ⟨j + 1, by first | rfl | go_num, by omega, S9⟩
            case neg =>
              have hjI : ¬ (j : Int) < (en : Int) := by omega
              go_wp2
              go_roundg (gko - 1)
              case measure => have := HGK.out; have := HI.out; omega
              case rel => exact ⟨i + 1, by first | rfl | go_num, by have := HGK.out; have := HI.out; omega, Sj⟩
        case neg =>
          have hiI : ¬ (i : Int) < (PP.length : Int) := by omega
          have BX : Below (w.alloc (.cells #[.int .i64 h.peer, .int .i64 h.boot, .int .i64 h.life, .slice a h.ls.length c1, .bool h.pend, .int .i64 h.miss] 24)).heap.size (w.alloc (.cells #[.int .i64 h.peer, .int .i64 h.boot, .int .i64 h.life, .slice a h.ls.length c1, .bool h.pend, .int .i64 h.miss] 24)) wr := HB9.out.trans (Sr.below.mono HB9.out.size)
          have HX : Hs wr a3 hs.length c3 hs := HH9.out.below Sr.below
          clear S0
          go_wp2_with (first
            | (go_at_call 13; refine (rsame_any a3 A c3 c hs hs _ HX (P.below BX)).mono ?_; rintro e w21 ⟨rfl, b21⟩; rw [eqHs_self])
            | (refine ⟨trivial, ?_⟩; go_at_call 15; refine (awake_any _).mono ?_; rintro e w22 ⟨rfl, b22⟩)
            | (go_at_call 15; refine (awake_any _).mono ?_; rintro e w22 ⟨rfl, b22⟩))
          go_ret
          exact ⟨rfl, (BW.trans (BX.mono BW.size)).trans ((b21.mono (Nat.le_trans BW.size BX.size)).trans (b22.mono (Nat.le_trans (Nat.le_trans BW.size BX.size) b21.size)))⟩
end Go.Proofs.Ytacefkchhcpgaaa
