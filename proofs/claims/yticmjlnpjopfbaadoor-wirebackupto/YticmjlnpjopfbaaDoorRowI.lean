/-
  A list of items that came in; storing a whole item.
-/
import Derived.Test.YticmjlnpjopfbaaDoorFitC
import Derived.Test.YticmjlnpjopfbaaDoorFitE
import Derived.Deep.WholeRow
namespace Go.Proofs.YticmjlnpjopfbaaDoor
open Go.ChangeShapes Go.WideShapes Go.ChangeAt Go.RowKit
set_option linter.unusedVariables false

abbrev itObj (x : Itm) : Obj := .cells #[.string x.name, .int .i64 x.epoch, .int .i64 x.maker, .bool x.alive, .int .i64 x.kind, .int .i64 x.scale, .int .i64 x.ver, .int .i64 x.writer, .int .i64 x.flow, .bool x.hasRest, .int .i64 x.rest, .bool x.mn.has, .int .i64 x.mn.value, .int .i64 x.mn.origin, .int .i64 x.mn.age, .bool x.mx.has, .int .i64 x.mx.value, .int .i64 x.mx.origin, .int .i64 x.mx.age] 38
abbrev pkv (p : Pkt) (a : Option Addr) (len cap : Nat) : Value := .agg #[.int .i64 p.kind, .int .i64 p.src, .int .i64 p.dst, .int .i64 p.boot, .int .i64 p.life, .int .i64 p.echo, .int .i64 p.echoLife, .slice a len cap]
abbrev pkObj (p : Pkt) (a : Option Addr) (len cap : Nat) : Obj := .cells #[.int .i64 p.kind, .int .i64 p.src, .int .i64 p.dst, .int .i64 p.boot, .int .i64 p.life, .int .i64 p.echo, .int .i64 p.echoLife, .slice a len cap] 24

theorem wpList_store38 {ops : Array Oper} {rest : List Oper} {o : Oper} {a : Act} {w : World} {Q : Exit → Act → World → Prop} (x y : Operand) (ho : o.op = .store 38 x y) (hg : o.guard = none) (z : Itm) (c : Array Value) (hc : c.size = 19)
    (hx : a.eval x = .pointer (some ⟨w.heap.size, 0, none⟩)) (hy : a.eval y = itv z)
    (h : wpList Tryd.prog ops Q rest (a.put o.dst undef) (w.alloc (itObj z))) : wpList Tryd.prog ops Q (o :: rest) a (w.alloc (.cells c 38)) :=
  wpList_plain hg fun K hK => by
    unfold Oper.wp execOp
    simp only [ho, hx, hy, Sem.run_bind]
    rw [run_storeAt_new w 38 c _ (by kernel_rfl) (by rw [hc]; rfl) (by simp [Value.oneCell'])]
    simp only [Result.andThen_ok, Sem.run_pure]
    exact hK _ _ h

/-- The items that a slice value leads to in a world. -/
structure RowI (w : World) (a : Option Addr) (len cap : Nat) (l : List Itm) : Prop where
  size : l.length = len
  le : len ≤ cap
  max : cap ≤ 9223372036854775807
  nil : a = none → len = 0 ∧ cap = 0
  mem : len = 0 ∨ ∃ b off, a = some ⟨b, off, none⟩ ∧ b < w.heap.size ∧ ∀ j, j < len → ItAt w b (off + j * 19) (l.getD j itZ)
theorem RowI.below {w w' : World} {a : Option Addr} {len cap : Nat} {l : List Itm} (R : RowI w a len cap l) (hb : Below w.heap.size w w') : RowI w' a len cap l where
  size := R.size
  le := R.le
  max := R.max
  nil := R.nil
  mem := R.mem.imp id fun ⟨b, off, e, h, c⟩ => ⟨b, off, e, Nat.lt_of_lt_of_le h hb.size, fun j hj => (c j hj).below hb⟩
theorem RowI.alloc {w : World} {a : Option Addr} {len cap : Nat} {l : List Itm} (R : RowI w a len cap l) (o : Obj) : RowI (w.alloc o) a len cap l := R.below ((Below.refl _ _).alloc (Nat.le_refl _) o)
theorem rowI_nil (w : World) : RowI w none 0 0 [] := ⟨rfl, Nat.le_refl _, by omega, fun _ => ⟨rfl, rfl⟩, .inl rfl⟩

set_option maxRecDepth 100000 in
set_option maxHeartbeats 2000000 in
theorem echo_any (p : Pkt) (a : Option Addr) (len cap : Nat) (w : World) : Calls Tryd.prog 29 #[pkv p a len cap] w fun e w' => e = .returned (.bool (if p.kind == 1 then p.echo == 0 && p.echoLife == 0 else inB p.echo 1 1099511627776 && inB p.echoLife 0 1099511627776)) ∧ w' = w.alloc (pkObj p a len cap) := by
  by_cases hk : p.kind = 1
  · have hk' : (p.kind == 1) = true := by simpa using hk
    obtain ⟨k, s, d, b, l, e, el, its⟩ := p
    obtain rfl : k = 1 := hk
    go_enter Tryd.func29, Tryd.ntmps29
    go_wp2
    all_goals go_ret
    all_goals exact ⟨C.ret_bool (by simp_all), by first | rfl | simp_all⟩
  · have hk' : (p.kind == 1) = false := by simpa using hk
    go_enter Tryd.func29, Tryd.ntmps29
    go_wp2_with (go_at_call 28; refine (incarnation_any _ _ _).mono ?_; rintro e w1 ⟨rfl, hw⟩; rw [hw]; clear hw)
    all_goals go_ret
    all_goals exact ⟨C.ret_bool (by simp_all), by first | rfl | simp_all⟩

end Go.Proofs.YticmjlnpjopfbaaDoor
