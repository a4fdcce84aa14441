/-
  Package half: the iterators over lines and over half-edges.
-/
import Derived.Test.YtifkkkfejbgifaaC0
namespace Go.Proofs.Ytifkkkfejbgifaa
open Go.ChangeShapes Go.WideShapes Go.ChangeAt Go.RowKit Go.Maps Go.Shelf
set_option linter.unusedVariables false
set_option linter.unusedSimpArgs false
attribute [local go_sem] Oper.semAt_some

/-- What an iterator leans on. -/
structure KeepI (w0 : World) (fb : Nat) (v : Value) (A : World) : Prop where
  ptr : One A fb v
  below : Below w0.heap.size w0 A
abbrev encN (x : LS) : Array Value := #[.string x.name, rg x.v x.p x.f]
abbrev encT (r : HR) : Array Value := #[.int .i64 r.peer, r.val]
section
variable {ops : Array Oper} {rest : List Oper} {o : Oper} {A : Act} {W : World} {Q : Exit → Act → World → Prop} {F : Fence} {n : Nat}
theorem wpListIn_load44x (hgd : o.guard = none) (x : Operand) (ho : o.op = .load 35 x) (g off : Nat) (name : ByteArray) (v p f : Int) (hx : A.eval x = .pointer (some ⟨g, off, none⟩)) (hc : W.rangeAt g off (LS.cells ⟨name, v, p, f⟩))
    (h : wpListIn F n Try.prog ops Q rest (A.put o.dst (.agg #[.string name, .int .i64 v, .int .i64 p, .int .i64 f])) W) : wpListIn F n Try.prog ops Q (o :: rest) A W := wpListIn_load44 hgd x ho g off ⟨name, v, p, f⟩ hx hc h
theorem wpListIn_load24x (hgd : o.guard = none) (x : Operand) (ho : o.op = .load 24 x) (g off : Nat) (peer boot life : Int) (a : Option Addr) (k cap : Nat) (pend : Bool) (miss : Int) (hx : A.eval x = .pointer (some ⟨g, off, none⟩)) (hc : W.rangeAt g off (HR.cells ⟨peer, boot, life, a, k, cap, pend, miss⟩))
    (h : wpListIn F n Try.prog ops Q rest (A.put o.dst (.agg #[.int .i64 peer, .int .i64 boot, .int .i64 life, .slice a k cap, .bool pend, .int .i64 miss])) W) : wpListIn F n Try.prog ops Q (o :: rest) A W := wpListIn_load24 hgd x ho g off ⟨peer, boot, life, a, k, cap, pend, miss⟩ hx hc h
theorem wpList_load44x (hgd : o.guard = none) (x : Operand) (ho : o.op = .load 35 x) (g off : Nat) (name : ByteArray) (v p f : Int) (hx : A.eval x = .pointer (some ⟨g, off, none⟩)) (hc : W.rangeAt g off (LS.cells ⟨name, v, p, f⟩))
    (h : wpList Try.prog ops Q rest (A.put o.dst (.agg #[.string name, .int .i64 v, .int .i64 p, .int .i64 f])) W) : wpList Try.prog ops Q (o :: rest) A W := wpList_load44 hgd x ho g off ⟨name, v, p, f⟩ hx hc h
theorem wpList_load24x (hgd : o.guard = none) (x : Operand) (ho : o.op = .load 24 x) (g off : Nat) (peer boot life : Int) (a : Option Addr) (k cap : Nat) (pend : Bool) (miss : Int) (hx : A.eval x = .pointer (some ⟨g, off, none⟩)) (hc : W.rangeAt g off (HR.cells ⟨peer, boot, life, a, k, cap, pend, miss⟩))
    (h : wpList Try.prog ops Q rest (A.put o.dst (.agg #[.int .i64 peer, .int .i64 boot, .int .i64 life, .slice a k cap, .bool pend, .int .i64 miss])) W) : wpList Try.prog ops Q (o :: rest) A W := wpList_load24 hgd x ho g off ⟨peer, boot, life, a, k, cap, pend, miss⟩ hx hc h
end
end Go.Proofs.Ytifkkkfejbgifaa
