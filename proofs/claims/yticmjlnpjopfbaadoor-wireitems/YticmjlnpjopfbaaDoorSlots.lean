/-
  Slots as values: where the fields of a packet and of an item lie, one behind the other.
-/
import Derived.Test.YticmjlnpjopfbaaDoorSlotF
import Derived.Test.YticmjlnpjopfbaaDoorRowI
import Derived.Test.YticmjlnpjopfbaaDoorHead
import Derived.Test.YticmjlnpjopfbaaDoorPartsL
namespace Go.Proofs.YticmjlnpjopfbaaDoor
open Go.ChangeShapes Go.WideShapes Go.ChangeAt Go.RowKit
open C (Fld)
set_option linter.unusedVariables false

structure Slt where
  kd : Int
  q1 : Option Addr
  q2 : Option Addr
  q3 : Option Addr
  q4 : Option Addr
def Slt.v (s : Slt) : Value := .agg #[.int .i64 s.kd, .pointer s.q1, .pointer s.q2, .pointer s.q3, .pointer s.q4]
def slS (a : Addr) : Slt := ⟨1, some a, none, none, none⟩
def slN (a : Addr) : Slt := ⟨1, none, some a, none, none⟩
def slG (a : Addr) : Slt := ⟨2, none, some a, none, none⟩
def slT (a : Addr) : Slt := ⟨3, none, none, some a, none⟩
def slB (a : Addr) : Slt := ⟨4, none, none, none, some a⟩
def hdS (pb cb : Nat) : List Slt := [slS ⟨pb, 0, none⟩, slS ⟨pb, 1, none⟩, slS ⟨pb, 2, none⟩, slN ⟨pb, 3, none⟩, slN ⟨pb, 4, none⟩, slN ⟨pb, 5, none⟩, slN ⟨pb, 6, none⟩, slS ⟨cb, 0, none⟩]
def itS (b o : Nat) : List Slt := [slT ⟨b, o, none⟩, slN ⟨b, o + 1, none⟩, slS ⟨b, o + 2, none⟩, slB ⟨b, o + 3, none⟩, slS ⟨b, o + 4, none⟩, slN ⟨b, o + 5, none⟩, slN ⟨b, o + 6, none⟩, slS ⟨b, o + 7, none⟩, slG ⟨b, o + 8, none⟩, slB ⟨b, o + 9, none⟩, slG ⟨b, o + 10, none⟩, slB ⟨b, o + 11, none⟩, slG ⟨b, o + 12, none⟩, slS ⟨b, o + 13, none⟩, slN ⟨b, o + 14, none⟩, slB ⟨b, o + 15, none⟩, slG ⟨b, o + 16, none⟩, slS ⟨b, o + 17, none⟩, slN ⟨b, o + 18, none⟩]
def hdA (pb cb : Nat) : Array Value := #[.int .i64 1, .pointer (some ⟨pb, 0, none⟩), .pointer none, .pointer none, .pointer none, .int .i64 1, .pointer (some ⟨pb, 1, none⟩), .pointer none, .pointer none, .pointer none, .int .i64 1, .pointer (some ⟨pb, 2, none⟩), .pointer none, .pointer none, .pointer none, .int .i64 1, .pointer none, .pointer (some ⟨pb, 3, none⟩), .pointer none, .pointer none, .int .i64 1, .pointer none, .pointer (some ⟨pb, 4, none⟩), .pointer none, .pointer none, .int .i64 1, .pointer none, .pointer (some ⟨pb, 5, none⟩), .pointer none, .pointer none, .int .i64 1, .pointer none, .pointer (some ⟨pb, 6, none⟩), .pointer none, .pointer none, .int .i64 1, .pointer (some ⟨cb, 0, none⟩), .pointer none, .pointer none, .pointer none]
def itA (b o : Nat) : Array Value := #[.int .i64 3, .pointer none, .pointer none, .pointer (some ⟨b, o, none⟩), .pointer none, .int .i64 1, .pointer none, .pointer (some ⟨b, o + 1, none⟩), .pointer none, .pointer none, .int .i64 1, .pointer (some ⟨b, o + 2, none⟩), .pointer none, .pointer none, .pointer none, .int .i64 4, .pointer none, .pointer none, .pointer none, .pointer (some ⟨b, o + 3, none⟩), .int .i64 1, .pointer (some ⟨b, o + 4, none⟩), .pointer none, .pointer none, .pointer none, .int .i64 1, .pointer none, .pointer (some ⟨b, o + 5, none⟩), .pointer none, .pointer none, .int .i64 1, .pointer none, .pointer (some ⟨b, o + 6, none⟩), .pointer none, .pointer none, .int .i64 1, .pointer (some ⟨b, o + 7, none⟩), .pointer none, .pointer none, .pointer none, .int .i64 2, .pointer none, .pointer (some ⟨b, o + 8, none⟩), .pointer none, .pointer none, .int .i64 4, .pointer none, .pointer none, .pointer none, .pointer (some ⟨b, o + 9, none⟩), .int .i64 2, .pointer none, .pointer (some ⟨b, o + 10, none⟩), .pointer none, .pointer none, .int .i64 4, .pointer none, .pointer none, .pointer none, .pointer (some ⟨b, o + 11, none⟩), .int .i64 2, .pointer none, .pointer (some ⟨b, o + 12, none⟩), .pointer none, .pointer none, .int .i64 1, .pointer (some ⟨b, o + 13, none⟩), .pointer none, .pointer none, .pointer none, .int .i64 1, .pointer none, .pointer (some ⟨b, o + 14, none⟩), .pointer none, .pointer none, .int .i64 4, .pointer none, .pointer none, .pointer none, .pointer (some ⟨b, o + 15, none⟩), .int .i64 2, .pointer none, .pointer (some ⟨b, o + 16, none⟩), .pointer none, .pointer none, .int .i64 1, .pointer (some ⟨b, o + 17, none⟩), .pointer none, .pointer none, .pointer none, .int .i64 1, .pointer none, .pointer (some ⟨b, o + 18, none⟩), .pointer none, .pointer none]
theorem hdS_len (pb cb : Nat) : (hdS pb cb).length = 8 := rfl
theorem itS_len (b o : Nat) : (itS b o).length = 19 := rfl

theorem head_slots (pb cb : Nat) (w : World) : Calls Tryd.prog 54 #[.pointer (some ⟨pb, 0, none⟩), .pointer (some ⟨cb, 0, none⟩)] w fun e w' => e = .returned (.agg (hdA pb cb)) ∧ Below w.heap.size w w' := head_any pb cb w
theorem parts_slots (b o : Nat) (w : World) : Calls Tryd.prog 55 #[.pointer (some ⟨b, o, none⟩)] w fun e w' => e = .returned (.agg (itA b o)) ∧ Below w.heap.size w w' := parts_any b o w

theorem hd_ix (pb cb : Nat) : ∀ (j : Nat) (s : Slt), (hdS pb cb)[j]? = some s → ∀ w, (Instr.index 95 (.agg (hdA pb cb)) (.int .i64 (j : Int))).run Tryd.prog w = .ok s.v w := by
  intro j s hs w
  have hj : j < 8 := (List.getElem?_eq_some_iff.1 hs).1
  match j, hj with
  | 0, _ => cases hs; show _ = _; kernel_rfl
  | 1, _ => cases hs; show _ = _; kernel_rfl
  | 2, _ => cases hs; show _ = _; kernel_rfl
  | 3, _ => cases hs; show _ = _; kernel_rfl
  | 4, _ => cases hs; show _ = _; kernel_rfl
  | 5, _ => cases hs; show _ = _; kernel_rfl
  | 6, _ => cases hs; show _ = _; kernel_rfl
  | 7, _ => cases hs; show _ = _; kernel_rfl
theorem it_ix (b o : Nat) : ∀ (j : Nat) (s : Slt), (itS b o)[j]? = some s → ∀ w, (Instr.index 97 (.agg (itA b o)) (.int .i64 (j : Int))).run Tryd.prog w = .ok s.v w := by
  intro j s hs w
  have hj : j < 19 := (List.getElem?_eq_some_iff.1 hs).1
  match j, hj with
  | 0, _ => cases hs; show _ = _; kernel_rfl
  | 1, _ => cases hs; show _ = _; kernel_rfl
  | 2, _ => cases hs; show _ = _; kernel_rfl
  | 3, _ => cases hs; show _ = _; kernel_rfl
  | 4, _ => cases hs; show _ = _; kernel_rfl
  | 5, _ => cases hs; show _ = _; kernel_rfl
  | 6, _ => cases hs; show _ = _; kernel_rfl
  | 7, _ => cases hs; show _ = _; kernel_rfl
  | 8, _ => cases hs; show _ = _; kernel_rfl
  | 9, _ => cases hs; show _ = _; kernel_rfl
  | 10, _ => cases hs; show _ = _; kernel_rfl
  | 11, _ => cases hs; show _ = _; kernel_rfl
  | 12, _ => cases hs; show _ = _; kernel_rfl
  | 13, _ => cases hs; show _ = _; kernel_rfl
  | 14, _ => cases hs; show _ = _; kernel_rfl
  | 15, _ => cases hs; show _ = _; kernel_rfl
  | 16, _ => cases hs; show _ = _; kernel_rfl
  | 17, _ => cases hs; show _ = _; kernel_rfl
  | 18, _ => cases hs; show _ = _; kernel_rfl

/-- A slot's cell, and the field that lies there. -/
inductive SlotAt (W : World) : Slt → Fld → Prop where
  | small (b o : Nat) (x : Int) : b < W.heap.size → W.cell? ⟨b, o, none⟩ = some (.int .i64 x) → SlotAt W (slS ⟨b, o, none⟩) ⟨1, x, ⟨#[]⟩, false⟩
  | num (b o : Nat) (x : Int) : b < W.heap.size → W.cell? ⟨b, o, none⟩ = some (.int .i64 x) → SlotAt W (slN ⟨b, o, none⟩) ⟨1, x, ⟨#[]⟩, false⟩
  | sgn (b o : Nat) (x : Int) : b < W.heap.size → W.cell? ⟨b, o, none⟩ = some (.int .i64 x) → SlotAt W (slG ⟨b, o, none⟩) ⟨2, x, ⟨#[]⟩, false⟩
  | text (b o : Nat) (s : ByteArray) : b < W.heap.size → W.cell? ⟨b, o, none⟩ = some (.string s) → SlotAt W (slT ⟨b, o, none⟩) ⟨3, 0, s, false⟩
  | truth (b o : Nat) (x : Bool) : b < W.heap.size → W.cell? ⟨b, o, none⟩ = some (.bool x) → SlotAt W (slB ⟨b, o, none⟩) ⟨4, 0, ⟨#[]⟩, x⟩
theorem SlotAt.below {W W' : World} {s : Slt} {f : Fld} (h : SlotAt W s f) (hb : Below W.heap.size W W') : SlotAt W' s f := by
  cases h with
  | small b o x h c => exact .small b o x (Nat.lt_of_lt_of_le h hb.size) ((hb.cell (p := ⟨b, o, none⟩) h).trans c)
  | num b o x h c => exact .num b o x (Nat.lt_of_lt_of_le h hb.size) ((hb.cell (p := ⟨b, o, none⟩) h).trans c)
  | sgn b o x h c => exact .sgn b o x (Nat.lt_of_lt_of_le h hb.size) ((hb.cell (p := ⟨b, o, none⟩) h).trans c)
  | text b o x h c => exact .text b o x (Nat.lt_of_lt_of_le h hb.size) ((hb.cell (p := ⟨b, o, none⟩) h).trans c)
  | truth b o x h c => exact .truth b o x (Nat.lt_of_lt_of_le h hb.size) ((hb.cell (p := ⟨b, o, none⟩) h).trans c)
theorem field_slot {s : Slt} {f : Fld} {w : World} (h : SlotAt w s f) : Calls Tryd.prog 34 #[s.v] w fun e w' => e = .returned (C.fv f.kind f.num f.text f.is) ∧ Below w.heap.size w w' := by
  cases h with
  | small b o x h c => exact field_small b o x w h c
  | num b o x h c => exact field_num b o x w h c
  | sgn b o x h c => exact field_sgn b o x w h c
  | text b o x h c => exact field_text b o x w h c
  | truth b o x h c => exact field_truth b o x w h c

/-- Fields as they lie in a packet. -/
def gN (x : Int) : Fld := ⟨1, x, ⟨#[]⟩, false⟩
def hdG (p : Pkt) (n : Nat) : List Fld := [gN p.kind, gN p.src, gN p.dst, gN p.boot, gN p.life, gN p.echo, gN p.echoLife, gN (n : Int)]
def itG (x : Itm) : List Fld := [tF x.name, gN x.epoch, gN x.maker, bF x.alive, gN x.kind, gN x.scale, gN x.ver, gN x.writer, sF x.flow, bF x.hasRest, sF x.rest, bF x.mn.has, sF x.mn.value, gN x.mn.origin, gN x.mn.age, bF x.mx.has, sF x.mx.value, gN x.mx.origin, gN x.mx.age]

theorem slot_it {W : World} {b o : Nat} {x : Itm} (hb : b < W.heap.size) (h : ItAt W b o x) : ∀ (j : Nat) (s : Slt), (itS b o)[j]? = some s → ∃ f, (itG x)[j]? = some f ∧ SlotAt W s f := by
  intro j s hs
  have hj : j < 19 := (List.getElem?_eq_some_iff.1 hs).1
  match j, hj with
  | 0, _ => cases hs; exact ⟨_, rfl, .text b (o) _ hb (h 0 _ rfl)⟩
  | 1, _ => cases hs; exact ⟨_, rfl, .num b (o + 1) _ hb (h 1 _ rfl)⟩
  | 2, _ => cases hs; exact ⟨_, rfl, .small b (o + 2) _ hb (h 2 _ rfl)⟩
  | 3, _ => cases hs; exact ⟨_, rfl, .truth b (o + 3) _ hb (h 3 _ rfl)⟩
  | 4, _ => cases hs; exact ⟨_, rfl, .small b (o + 4) _ hb (h 4 _ rfl)⟩
  | 5, _ => cases hs; exact ⟨_, rfl, .num b (o + 5) _ hb (h 5 _ rfl)⟩
  | 6, _ => cases hs; exact ⟨_, rfl, .num b (o + 6) _ hb (h 6 _ rfl)⟩
  | 7, _ => cases hs; exact ⟨_, rfl, .small b (o + 7) _ hb (h 7 _ rfl)⟩
  | 8, _ => cases hs; exact ⟨_, rfl, .sgn b (o + 8) _ hb (h 8 _ rfl)⟩
  | 9, _ => cases hs; exact ⟨_, rfl, .truth b (o + 9) _ hb (h 9 _ rfl)⟩
  | 10, _ => cases hs; exact ⟨_, rfl, .sgn b (o + 10) _ hb (h 10 _ rfl)⟩
  | 11, _ => cases hs; exact ⟨_, rfl, .truth b (o + 11) _ hb (h 11 _ rfl)⟩
  | 12, _ => cases hs; exact ⟨_, rfl, .sgn b (o + 12) _ hb (h 12 _ rfl)⟩
  | 13, _ => cases hs; exact ⟨_, rfl, .small b (o + 13) _ hb (h 13 _ rfl)⟩
  | 14, _ => cases hs; exact ⟨_, rfl, .num b (o + 14) _ hb (h 14 _ rfl)⟩
  | 15, _ => cases hs; exact ⟨_, rfl, .truth b (o + 15) _ hb (h 15 _ rfl)⟩
  | 16, _ => cases hs; exact ⟨_, rfl, .sgn b (o + 16) _ hb (h 16 _ rfl)⟩
  | 17, _ => cases hs; exact ⟨_, rfl, .small b (o + 17) _ hb (h 17 _ rfl)⟩
  | 18, _ => cases hs; exact ⟨_, rfl, .num b (o + 18) _ hb (h 18 _ rfl)⟩
/-- A packet lies there. -/
def pkc (p : Pkt) (a : Option Addr) (len cap : Nat) : List Value := [.int .i64 p.kind, .int .i64 p.src, .int .i64 p.dst, .int .i64 p.boot, .int .i64 p.life, .int .i64 p.echo, .int .i64 p.echoLife, .slice a len cap]
def PkAt (W : World) (pb : Nat) (p : Pkt) (a : Option Addr) (len cap : Nat) : Prop := ∀ j v, (pkc p a len cap)[j]? = some v → W.cell? ⟨pb, j, none⟩ = some v
theorem PkAt.lt {W : World} {pb : Nat} {p : Pkt} {a : Option Addr} {len cap : Nat} (h : PkAt W pb p a len cap) : pb < W.heap.size := by
  have h0 := h 0 _ rfl
  rcases Nat.lt_or_ge pb W.heap.size with k | k
  · exact k
  · simp [World.cell?, Array.getElem?_eq_none k] at h0
theorem PkAt.of_block {W W' : World} {pb : Nat} {p : Pkt} {a : Option Addr} {len cap : Nat} (h : PkAt W pb p a len cap) (hb : W'.heap[pb]? = W.heap[pb]?) : PkAt W' pb p a len cap :=
  fun j v hj => (World.cell?_of_block (a := ⟨pb, j, none⟩) hb).trans (h j v hj)
theorem PkAt.below {W W' : World} {pb : Nat} {p : Pkt} {a : Option Addr} {len cap : Nat} (h : PkAt W pb p a len cap) (hb : Below W.heap.size W W') : PkAt W' pb p a len cap := h.of_block (hb.block pb h.lt)
theorem pkAt_new (w : World) (p : Pkt) (a : Option Addr) (len cap : Nat) : PkAt (w.alloc (pkObj p a len cap)) w.heap.size p a len cap := by
  intro j v hj
  rw [cell_of_row _ _ _ _ 24 _ (World.alloc_heap_new w _)]
  simpa [pkc] using hj
theorem slot_hd {W : World} {pb cb : Nat} {p : Pkt} {a : Option Addr} {len cap n : Nat} (h : PkAt W pb p a len cap) (hc : cb < W.heap.size) (c : W.cell? ⟨cb, 0, none⟩ = some (.int .i64 (n : Int))) :
    ∀ (j : Nat) (s : Slt), (hdS pb cb)[j]? = some s → ∃ f, (hdG p n)[j]? = some f ∧ SlotAt W s f := by
  intro j s hs
  have hp := h.lt
  have hj : j < 8 := (List.getElem?_eq_some_iff.1 hs).1
  match j, hj with
  | 0, _ => cases hs; exact ⟨_, rfl, .small pb 0 _ hp (h 0 _ rfl)⟩
  | 1, _ => cases hs; exact ⟨_, rfl, .small pb 1 _ hp (h 1 _ rfl)⟩
  | 2, _ => cases hs; exact ⟨_, rfl, .small pb 2 _ hp (h 2 _ rfl)⟩
  | 3, _ => cases hs; exact ⟨_, rfl, .num pb 3 _ hp (h 3 _ rfl)⟩
  | 4, _ => cases hs; exact ⟨_, rfl, .num pb 4 _ hp (h 4 _ rfl)⟩
  | 5, _ => cases hs; exact ⟨_, rfl, .num pb 5 _ hp (h 5 _ rfl)⟩
  | 6, _ => cases hs; exact ⟨_, rfl, .num pb 6 _ hp (h 6 _ rfl)⟩
  | 7, _ => cases hs; exact ⟨_, rfl, .small cb 0 _ hc c⟩
end Go.Proofs.YticmjlnpjopfbaaDoor
