/-
  Package bag: lists of links; the document's Same.
-/
import Derived.Test.YtoppecppmjpgiaaBgI
import Derived.Laws.StructEq
namespace Go.Proofs.Ytoppecppmjpgiaa
open Go.ChangeShapes Go.WideShapes Go.ChangeAt Go.RowKit Go.Maps
set_option linter.unusedVariables false
set_option linter.unusedSimpArgs false

structure LK where
  fst : Int
  snd : Int
def LK.cells (d : LK) : List Value := [.int .i64 d.fst, .int .i64 d.snd]
def LK.v (d : LK) : Value := .agg #[.int .i64 d.fst, .int .i64 d.snd]
def LK.z : LK := ⟨0, 0⟩
/-- The links that a slice value leads to. -/
structure Lks (W : World) (a : Option Addr) (m cap : Nat) (ls : List LK) : Prop where
  size : ls.length = m
  le : m ≤ cap
  max : cap ≤ 9223372036854775807
  mem : (a = none ∧ cap = 0) ∨ ∃ g off, a = some ⟨g, off, none⟩ ∧ g < W.heap.size ∧ ∀ i, i < m → W.rangeAt g (off + i * 2) (ls.getD i LK.z).cells
/-- A mail's value. -/
abbrev mailV (next : Int) (a : Option Addr) (n c : Nat) (la : Option Addr) (m lc : Nat) : Value := .agg #[.int .i64 next, .slice a n c, .slice la m lc]
/-- Two boxes of mails, made. -/
structure Sm (w : World) (p q : Obj) (W : World) : Prop where
  below : Below w.heap.size w W
  one : W.heap[w.heap.size]? = some p
  two : W.heap[w.heap.size + 1]? = some q
theorem Sm.mk2 (w : World) (p q : Obj) : Sm w p q ((w.alloc p).alloc q) :=
  ⟨((Below.refl _ _).alloc (Nat.le_refl _) _).alloc (by simp) _, (Below.heap_alloc _ _ _ (by simp)).trans (World.alloc_heap_new w p), by have := World.alloc_heap_new (w.alloc p) q; rw [World.size_alloc] at this; exact this⟩
theorem Sm.drew {w : World} {p q : Obj} {W : World} (h : Sm w p q W) (n : Nat) : Sm w p q (W.drewN n) := ⟨⟨h.below.os, h.below.tape, h.below.output, h.below.size, h.below.block⟩, h.one, h.two⟩
theorem range_later {w W : World} {g o : Nat} {cs : List Value} (h : w.rangeAt g o cs) (hg : g < w.heap.size) (k : Below w.heap.size w W) : W.rangeAt g o cs := fun j v hv => (World.cell?_of_block (a := ⟨g, o + j, none⟩) (k.block g hg)).trans (h j v hv)
abbrev mailC (next : Int) (a : Option Addr) (n c : Nat) (la : Option Addr) (m lc : Nat) : Obj := .cells #[.int .i64 next, .slice a n c, .slice la m lc] 25 (0, 0)
structure Cel3 (W : World) (g : Nat) (x y z : Value) : Prop where
  c0 : W.cell? ⟨g, 0, none⟩ = some x
  c1 : W.cell? ⟨g, 1, none⟩ = some y
  c2 : W.cell? ⟨g, 2, none⟩ = some z
theorem cel3 {W : World} {g : Nat} {x y z : Value} {t : TypeId} (h : W.heap[g]? = some (.cells #[x, y, z] t (0, 0))) : Cel3 W g x y z := ⟨row_cell h 0 _ rfl, row_cell h 1 _ rfl, row_cell h 2 _ rfl⟩
theorem eqFields_cons {P : Program} {w : World} {d : Nat} {xs ys : Array Value} {f : Field} {fs : List Field} {a b : Value} {r q : Bool} (hn : f.name ≠ "_") (ha : (part f.type xs f.offset).run P w = .ok a w) (hb : (part f.type ys f.offset).run P w = .ok b w)
    (hr : (Op.equalIn d f.type a b).run P w = .ok r w) (hq : (Op.eqFields d xs ys fs).run P w = .ok q w) : (Op.eqFields d xs ys (f :: fs)).run P w = .ok (r && q) w := by
  simp only [Op.eqFields, Sem.run_bind, Sem.run_ite, if_pos hn, ha, hb, hr, Result.andThen_ok]
  cases r
  · simp
  · simpa using hq
theorem eqFields_nil {P : Program} {w : World} {d : Nat} {xs ys : Array Value} : (Op.eqFields d xs ys []).run P w = .ok true w := by simp [Op.eqFields]
theorem eq33 (w : World) (d : Nat) (a0 a1 a2 : Int) (a3 : ByteArray) (b0 b1 b2 : Int) (b3 : ByteArray) :
    (Op.equalIn (d + 2) 33 (.agg #[.int .i64 a0, .int .i64 a1, .int .i64 a2, .string a3]) (.agg #[.int .i64 b0, .int .i64 b1, .int .i64 b2, .string b3])).run Try.prog w = .ok ((a0 == b0) && ((a1 == b1) && ((a2 == b2) && ((a3.toList == b3.toList) && true)))) w := by
  have hS : Try.prog.underlying 33 = some (.struct (Try.prog.fieldsOf 33)) := by kernel_rfl
  have hp : Try.prog.stoodInHeld 33 = false := by kernel_rfl
  rw [run_equalIn_agg w (d + 1) 33 _ _ hS hp]
  simp only [Program.fieldsOf, Try.underlying33]
  refine eqFields_cons (a := .int .i64 a0) (b := .int .i64 b0) (r := (a0 == b0)) (by decide) (by go_simp) (by go_simp) (by go_simp) ?_
  refine eqFields_cons (a := .int .i64 a1) (b := .int .i64 b1) (r := (a1 == b1)) (by decide) (by go_simp) (by go_simp) (by go_simp) ?_
  refine eqFields_cons (a := .int .i64 a2) (b := .int .i64 b2) (r := (a2 == b2)) (by decide) (by go_simp) (by go_simp) (by go_simp) ?_
  refine eqFields_cons (a := .string a3) (b := .string b3) (r := (a3.toList == b3.toList)) (by decide) (by go_simp) (by go_simp) (by go_simp) ?_
  exact eqFields_nil
theorem eq65 (w : World) (d : Nat) (a0 a1 b0 b1 : Int) :
    (Op.equalIn (d + 2) 65 (.agg #[.int .i64 a0, .int .i64 a1]) (.agg #[.int .i64 b0, .int .i64 b1])).run Try.prog w = .ok ((a0 == b0) && ((a1 == b1) && true)) w := by
  have hS : Try.prog.underlying 65 = some (.struct (Try.prog.fieldsOf 65)) := by kernel_rfl
  have hp : Try.prog.stoodInHeld 65 = false := by kernel_rfl
  rw [run_equalIn_agg w (d + 1) 65 _ _ hS hp]
  simp only [Program.fieldsOf, Try.underlying65]
  refine eqFields_cons (a := .int .i64 a0) (b := .int .i64 b0) (r := (a0 == b0)) (by decide) (by go_simp) (by go_simp) (by go_simp) ?_
  refine eqFields_cons (a := .int .i64 a1) (b := .int .i64 b1) (r := (a1 == b1)) (by decide) (by go_simp) (by go_simp) (by go_simp) ?_
  exact eqFields_nil
theorem neq33 (w : World) (a0 a1 a2 : Int) (a3 : ByteArray) : (binOp .neq 33 (.agg #[.int .i64 a0, .int .i64 a1, .int .i64 a2, .string a3]) (.agg #[.int .i64 a0, .int .i64 a1, .int .i64 a2, .string a3])).run Try.prog w = .ok (.bool false) w := by
  rw [run_neq_struct, show (10000 : Nat) = 9998 + 2 from rfl, eq33]
  simp
theorem neq65 (w : World) (a0 a1 : Int) : (binOp .neq 65 (.agg #[.int .i64 a0, .int .i64 a1]) (.agg #[.int .i64 a0, .int .i64 a1])).run Try.prog w = .ok (.bool false) w := by
  rw [run_neq_struct, show (10000 : Nat) = 9998 + 2 from rfl, eq65]
  simp
/-- In a region that only reads: a load from the middle of a row. -/
theorem wpQuiet_load_mid {P : Program} {ops : Array Oper} {C : World → Prop} {Q : Act → Prop} {rest : List Oper} {op : Oper} {a : Act} (hgd : op.guard = none) (ty : TypeId) (x : Operand) (ho : op.op = .load ty x) (b o : Nat) (hx : a.eval x = .pointer (some ⟨b, o, none⟩)) (cs : List Value) (d : TypeDesc) (hS : ∀ w, C w → w.rangeAt b o cs)
    (hu : P.underlying ty = some d) (hd : d.isRow = true) (hi : (P.info? ty).map (·.size) = some cs.length) (h : wpQuiet P ops C Q rest (a.put op.dst (.agg cs.toArray))) : wpQuiet P ops C Q (op :: rest) a := by
  unfold wpQuiet
  rw [if_pos (by simp [Region.wanted, hgd])]
  refine ⟨_, fun w hC => ?_, h⟩
  unfold Oper.quietAt execOp
  simp only [ho, hx, Instr.loadAt, Instr.sureAddr, Sem.run_bind, Sem.run_pure, Result.andThen_ok, run_loadVar_mid w b o ty cs d (hS w hC) hu hd hi]
  exact ⟨rfl, rfl⟩
theorem range_drew {w : World} {b o : Nat} {cs : List Value} (h : w.rangeAt b o cs) : ∀ W, (∃ n, W = w.drewN n) → W.rangeAt b o cs := by
  rintro W ⟨n, rfl⟩
  exact h
theorem wpQuiet_run {P : Program} {ops : Array Oper} {C : World → Prop} {Q : Act → Prop} {rest : List Oper} {op : Oper} {a : Act} (hgd : op.guard = none) (v : Value) (hr : ∀ w, (execOp a.eval op).run P w = .ok (.value v) w) (h : wpQuiet P ops C Q rest (a.put op.dst v)) : wpQuiet P ops C Q (op :: rest) a := by
  unfold wpQuiet
  rw [if_pos (by simp [Region.wanted, hgd])]
  refine ⟨v, fun w hC => ?_, h⟩
  unfold Oper.quietAt
  rw [hr]
  exact ⟨rfl, rfl⟩
theorem exec_neq33 {o : Oper} {ρ : Operand → Value} {x y : Operand} (ho : o.op = .binOp .neq 33 x y 33) (a0 a1 a2 : Int) (a3 : ByteArray) (hx : ρ x = .agg #[.int .i64 a0, .int .i64 a1, .int .i64 a2, .string a3]) (hy : ρ y = .agg #[.int .i64 a0, .int .i64 a1, .int .i64 a2, .string a3]) (X : World) : (execOp ρ o).run Try.prog X = .ok (.value (.bool false)) X := by
  have hm : Try.prog.eqGuardType Try.prog.depth 33 = false := by kernel_rfl
  unfold execOp
  simp only [ho, hx, hy, Sem.run_bind, run_eqGuard_agg _ _ _ _ _ _ _ hm, neq33, Result.andThen_ok, Sem.run_pure]
theorem exec_neq65 {o : Oper} {ρ : Operand → Value} {x y : Operand} (ho : o.op = .binOp .neq 65 x y 65) (a0 a1 : Int) (hx : ρ x = .agg #[.int .i64 a0, .int .i64 a1]) (hy : ρ y = .agg #[.int .i64 a0, .int .i64 a1]) (X : World) : (execOp ρ o).run Try.prog X = .ok (.value (.bool false)) X := by
  have hm : Try.prog.eqGuardType Try.prog.depth 65 = false := by kernel_rfl
  unfold execOp
  simp only [ho, hx, hy, Sem.run_bind, run_eqGuard_agg _ _ _ _ _ _ _ hm, neq65, Result.andThen_ok, Sem.run_pure]
set_option maxHeartbeats 4000000 in
theorem same_any (next : Int) (a a' : Option Addr) (n c c' : Nat) (ds : List DG) (la la' : Option Addr) (m lc lc' : Nat) (ls : List LK) (w : World) (L1 : Lst w a n c ds) (L2 : Lst w a' n c' ds) (K1 : Lks w la m lc ls) (K2 : Lks w la' m lc' ls) :
    Calls Try.prog 13 #[mailV next a n c la m lc, mailV next a' n c' la' m lc'] w fun e w' => e = .returned (.bool true) ∧ Below w.heap.size w w' := by
  have hnb : Hid (n ≤ 9223372036854775807) := ⟨by have := L1.le; have := L1.max; omega⟩
  have hmb : Hid (m ≤ 9223372036854775807) := ⟨by have := K1.le; have := K1.max; omega⟩
  go_enter Try.func13, Try.ntmps13
  go_wp2
  go_loopg [5] n (fun gk v5 wr => ∃ i : Nat, v5 = .int .i64 (i : Int) ∧ i + gk = n ∧ Sm w (mailC next a n c la m lc) (mailC next a' n c' la' m lc') wr)
  case atStart => exact ⟨0, by first | rfl | go_num, by omega, Sm.mk2 _ _ _⟩
  case round =>
    obtain ⟨i, rfl, hg, S⟩ := hrel
    have ⟨q10, q11, q12⟩ := cel3 S.one
    have ⟨q20, q21, q22⟩ := cel3 S.two
    by_cases hi : i < n
    · have hiI : (i : Int) < (n : Int) := by omega
      obtain ⟨g, off, rfl, hd, hr⟩ := L1.at i hi
      obtain ⟨g', off', rfl, hd', hr'⟩ := L2.at i hi
      have r1 := range_later hr L1.lt S.below
      have r2 := range_later hr' L2.lt S.below
      obtain ⟨num, src, dst, body, hdd⟩ : ∃ num src dst body, ds.getD i DG.z = ⟨num, src, dst, body⟩ := ⟨_, _, _, _, rfl⟩
      rw [hdd] at r1 r2
      have t1 := range_drew r1
      have t2 := range_drew r2
      clear hdd hd hd'
      go_wp2_with (fail)
      refine wp_region_quiet_lit (by kernel_rfl) (by kernel_rfl) ?_
      repeat (first
        | ((with_reducible show wpQuiet _ _ _ _ (Oper.mk _ (Op.load 33 (Operand.tmp 40)) _ _ _ _ :: _) _); refine wpQuiet_load_mid rfl 33 _ rfl g (off + i * 4) rfl _ _ t1 Try.underlying33 rfl (by show _ = some 4; kernel_rfl) ?_)
        | ((with_reducible show wpQuiet _ _ _ _ (Oper.mk _ (Op.load 33 (Operand.tmp 45)) _ _ _ _ :: _) _); refine wpQuiet_load_mid rfl 33 _ rfl g' (off' + i * 4) rfl _ _ t2 Try.underlying33 rfl (by show _ = some 4; kernel_rfl) ?_)
        | ((with_reducible show wpQuiet _ _ _ _ (Oper.mk _ (Op.binOp .neq 33 _ _ 33) _ _ _ _ :: _) _); refine wpQuiet_run rfl (.bool false) (exec_neq33 rfl num src dst body rfl rfl) ?_)
        | quiet_step (fail))
      refine wpQuiet_nil ?_
      intro _ hw'
      obtain ⟨nq, hw''⟩ := hw'
      subst hw''
      go_wp2
      go_roundg (gk - 1)
      case measure => omega
      case rel => exact ⟨i + 1, by rw [IntWalk.wrap64_in _ (by have := hnb.out; omega)]; go_num, by omega, S.drew _⟩
    · obtain rfl : i = n := by omega
      go_wp2
      go_loopg [6] m (fun gl v6 ws => ∃ j : Nat, v6 = .int .i64 (j : Int) ∧ j + gl = m ∧ Sm w (mailC next a i c la m lc) (mailC next a' i c' la' m lc') ws)
      case atStart => exact ⟨0, by first | rfl | go_num, by omega, S⟩
      case round =>
        obtain ⟨j, rfl, hg2, S2⟩ := hrel
        clear q10 q11 q12 q20 q21 q22
        have ⟨q10, q11, q12⟩ := cel3 S2.one
        have ⟨q20, q21, q22⟩ := cel3 S2.two
        by_cases hj : j < m
        · have hjI : (j : Int) < (m : Int) := by omega
          obtain ⟨g, off, rfl, hl1, hr⟩ := K1.mem.resolve_left (by have := K1.le; omega)
          obtain ⟨g', off', rfl, hl2, hr'⟩ := K2.mem.resolve_left (by have := K2.le; omega)
          have r1 := range_later (hr j hj) hl1 S2.below
          have r2 := range_later (hr' j hj) hl2 S2.below
          obtain ⟨fst, snd, hdd⟩ : ∃ fst snd, ls.getD j LK.z = ⟨fst, snd⟩ := ⟨_, _, rfl⟩
          rw [hdd] at r1 r2
          have t1 := range_drew r1
          have t2 := range_drew r2
          clear hdd hr hr'
          go_wp2_with (fail)
          refine wp_region_quiet_lit (by kernel_rfl) (by kernel_rfl) ?_
          repeat (first
            | ((with_reducible show wpQuiet _ _ _ _ (Oper.mk _ (Op.load 65 (Operand.tmp 58)) _ _ _ _ :: _) _); refine wpQuiet_load_mid rfl 65 _ rfl g (off + j * 2) rfl _ _ t1 Try.underlying65 rfl (by show _ = some 2; kernel_rfl) ?_)
            | ((with_reducible show wpQuiet _ _ _ _ (Oper.mk _ (Op.load 65 (Operand.tmp 63)) _ _ _ _ :: _) _); refine wpQuiet_load_mid rfl 65 _ rfl g' (off' + j * 2) rfl _ _ t2 Try.underlying65 rfl (by show _ = some 2; kernel_rfl) ?_)
            | ((with_reducible show wpQuiet _ _ _ _ (Oper.mk _ (Op.binOp .neq 65 _ _ 65) _ _ _ _ :: _) _); refine wpQuiet_run rfl (.bool false) (exec_neq65 rfl fst snd rfl rfl) ?_)
            | quiet_step (fail))
          refine wpQuiet_nil ?_
          intro _ hw'
          obtain ⟨nq, hw''⟩ := hw'
          subst hw''
          go_wp2
          go_roundg (gk - 1)
          case measure => omega
          case rel => exact ⟨j + 1, by rw [IntWalk.wrap64_in _ (by have := hmb.out; omega)]; go_num, by omega, S2.drew _⟩
        · obtain rfl : j = m := by omega
          go_wp2
          go_ret
          exact ⟨rfl, S2.below⟩
end Go.Proofs.Ytoppecppmjpgiaa
