/-
  When two items are the same, as '==' tells.
-/
import Derived.Test.YticmjlnpjopfbaaDoorFitB
import Derived.Laws.StructEq
namespace Go.Proofs.YticmjlnpjopfbaaDoor
open Go.ChangeShapes Go.WideShapes Go.ChangeAt Go.RowKit
set_option linter.unusedVariables false

theorem eqFields_cons {P : Program} {w : World} {d : Nat} {xs ys : Array Value} {f : Field} {fs : List Field} {a b : Value} {r q : Bool} (hn : f.name ≠ "_") (ha : (part f.type xs f.offset).run P w = .ok a w) (hb : (part f.type ys f.offset).run P w = .ok b w)
    (hr : (Op.equalIn d f.type a b).run P w = .ok r w) (hq : (Op.eqFields d xs ys fs).run P w = .ok q w) : (Op.eqFields d xs ys (f :: fs)).run P w = .ok (r && q) w := by
  simp only [Op.eqFields, Sem.run_bind, Sem.run_ite, if_pos hn, ha, hb, hr, Result.andThen_ok]
  cases r
  · simp
  · simpa using hq
theorem eqFields_nil {P : Program} {w : World} {d : Nat} {xs ys : Array Value} : (Op.eqFields d xs ys []).run P w = .ok true w := by simp [Op.eqFields]

set_option maxHeartbeats 1000000 in
theorem eq32 (w : World) (d : Nat) (a0 : ByteArray) (a1 : Int) (a2 : Int) (a3 : Bool) (a4 : Int) (a5 : Int) (b0 : ByteArray) (b1 : Int) (b2 : Int) (b3 : Bool) (b4 : Int) (b5 : Int) :
    (Op.equalIn (d + 2) 32 (.agg #[.string a0, .int .i64 a1, .int .i64 a2, .bool a3, .int .i64 a4, .int .i64 a5]) (.agg #[.string b0, .int .i64 b1, .int .i64 b2, .bool b3, .int .i64 b4, .int .i64 b5])).run Tryd.prog w = .ok ((a0.toList == b0.toList) && ((a1 == b1) && ((a2 == b2) && ((a3 == b3) && ((a4 == b4) && ((a5 == b5) && true)))))) w := by
  have hS : Tryd.prog.underlying 32 = some (.struct (Tryd.prog.fieldsOf 32)) := by kernel_rfl
  have hp : Tryd.prog.stoodInHeld 32 = false := by kernel_rfl
  rw [run_equalIn_agg w (d + 1) 32 _ _ hS hp]
  simp only [Program.fieldsOf, Tryd.underlying32]
  refine eqFields_cons (a := .string a0) (b := .string b0) (r := (a0.toList == b0.toList)) (by decide) (by go_simp) (by go_simp) (by go_simp) ?_
  refine eqFields_cons (a := .int .i64 a1) (b := .int .i64 b1) (r := (a1 == b1)) (by decide) (by go_simp) (by go_simp) (by go_simp) ?_
  refine eqFields_cons (a := .int .i64 a2) (b := .int .i64 b2) (r := (a2 == b2)) (by decide) (by go_simp) (by go_simp) (by go_simp) ?_
  refine eqFields_cons (a := .bool a3) (b := .bool b3) (r := (a3 == b3)) (by decide) (by go_simp) (by go_simp) (by go_simp) ?_
  refine eqFields_cons (a := .int .i64 a4) (b := .int .i64 b4) (r := (a4 == b4)) (by decide) (by go_simp) (by go_simp) (by go_simp) ?_
  refine eqFields_cons (a := .int .i64 a5) (b := .int .i64 b5) (r := (a5 == b5)) (by decide) (by go_simp) (by go_simp) (by go_simp) ?_
  exact eqFields_nil

set_option maxHeartbeats 1000000 in
theorem eq34 (w : World) (d : Nat) (a6 : Int) (a7 : Int) (a8 : Int) (b6 : Int) (b7 : Int) (b8 : Int) :
    (Op.equalIn (d + 2) 34 (.agg #[.int .i64 a6, .int .i64 a7, .int .i64 a8]) (.agg #[.int .i64 b6, .int .i64 b7, .int .i64 b8])).run Tryd.prog w = .ok ((a6 == b6) && ((a7 == b7) && ((a8 == b8) && true))) w := by
  have hS : Tryd.prog.underlying 34 = some (.struct (Tryd.prog.fieldsOf 34)) := by kernel_rfl
  have hp : Tryd.prog.stoodInHeld 34 = false := by kernel_rfl
  rw [run_equalIn_agg w (d + 1) 34 _ _ hS hp]
  simp only [Program.fieldsOf, Tryd.underlying34]
  refine eqFields_cons (a := .int .i64 a6) (b := .int .i64 b6) (r := (a6 == b6)) (by decide) (by go_simp) (by go_simp) (by go_simp) ?_
  refine eqFields_cons (a := .int .i64 a7) (b := .int .i64 b7) (r := (a7 == b7)) (by decide) (by go_simp) (by go_simp) (by go_simp) ?_
  refine eqFields_cons (a := .int .i64 a8) (b := .int .i64 b8) (r := (a8 == b8)) (by decide) (by go_simp) (by go_simp) (by go_simp) ?_
  exact eqFields_nil

set_option maxHeartbeats 1000000 in
theorem eq36 (w : World) (d : Nat) (a11 : Bool) (a12 : Int) (a13 : Int) (a14 : Int) (b11 : Bool) (b12 : Int) (b13 : Int) (b14 : Int) :
    (Op.equalIn (d + 2) 36 (.agg #[.bool a11, .int .i64 a12, .int .i64 a13, .int .i64 a14]) (.agg #[.bool b11, .int .i64 b12, .int .i64 b13, .int .i64 b14])).run Tryd.prog w = .ok ((a11 == b11) && ((a12 == b12) && ((a13 == b13) && ((a14 == b14) && true)))) w := by
  have hS : Tryd.prog.underlying 36 = some (.struct (Tryd.prog.fieldsOf 36)) := by kernel_rfl
  have hp : Tryd.prog.stoodInHeld 36 = false := by kernel_rfl
  rw [run_equalIn_agg w (d + 1) 36 _ _ hS hp]
  simp only [Program.fieldsOf, Tryd.underlying36]
  refine eqFields_cons (a := .bool a11) (b := .bool b11) (r := (a11 == b11)) (by decide) (by go_simp) (by go_simp) (by go_simp) ?_
  refine eqFields_cons (a := .int .i64 a12) (b := .int .i64 b12) (r := (a12 == b12)) (by decide) (by go_simp) (by go_simp) (by go_simp) ?_
  refine eqFields_cons (a := .int .i64 a13) (b := .int .i64 b13) (r := (a13 == b13)) (by decide) (by go_simp) (by go_simp) (by go_simp) ?_
  refine eqFields_cons (a := .int .i64 a14) (b := .int .i64 b14) (r := (a14 == b14)) (by decide) (by go_simp) (by go_simp) (by go_simp) ?_
  exact eqFields_nil

set_option maxHeartbeats 1000000 in
theorem eq38 (w : World) (d : Nat) (a0 : ByteArray) (a1 : Int) (a2 : Int) (a3 : Bool) (a4 : Int) (a5 : Int) (a6 : Int) (a7 : Int) (a8 : Int) (a9 : Bool) (a10 : Int) (a11 : Bool) (a12 : Int) (a13 : Int) (a14 : Int) (a15 : Bool) (a16 : Int) (a17 : Int) (a18 : Int) (b0 : ByteArray) (b1 : Int) (b2 : Int) (b3 : Bool) (b4 : Int) (b5 : Int) (b6 : Int) (b7 : Int) (b8 : Int) (b9 : Bool) (b10 : Int) (b11 : Bool) (b12 : Int) (b13 : Int) (b14 : Int) (b15 : Bool) (b16 : Int) (b17 : Int) (b18 : Int) :
    (Op.equalIn (d + 3) 38 (.agg #[.string a0, .int .i64 a1, .int .i64 a2, .bool a3, .int .i64 a4, .int .i64 a5, .int .i64 a6, .int .i64 a7, .int .i64 a8, .bool a9, .int .i64 a10, .bool a11, .int .i64 a12, .int .i64 a13, .int .i64 a14, .bool a15, .int .i64 a16, .int .i64 a17, .int .i64 a18]) (.agg #[.string b0, .int .i64 b1, .int .i64 b2, .bool b3, .int .i64 b4, .int .i64 b5, .int .i64 b6, .int .i64 b7, .int .i64 b8, .bool b9, .int .i64 b10, .bool b11, .int .i64 b12, .int .i64 b13, .int .i64 b14, .bool b15, .int .i64 b16, .int .i64 b17, .int .i64 b18])).run Tryd.prog w = .ok (((a0.toList == b0.toList) && ((a1 == b1) && ((a2 == b2) && ((a3 == b3) && ((a4 == b4) && ((a5 == b5) && true)))))) && (((a6 == b6) && ((a7 == b7) && ((a8 == b8) && true))) && ((a9 == b9) && ((a10 == b10) && (((a11 == b11) && ((a12 == b12) && ((a13 == b13) && ((a14 == b14) && true)))) && (((a15 == b15) && ((a16 == b16) && ((a17 == b17) && ((a18 == b18) && true)))) && true)))))) w := by
  have hS : Tryd.prog.underlying 38 = some (.struct (Tryd.prog.fieldsOf 38)) := by kernel_rfl
  have hp : Tryd.prog.stoodInHeld 38 = false := by kernel_rfl
  rw [run_equalIn_agg w (d + 2) 38 _ _ hS hp]
  simp only [Program.fieldsOf, Tryd.underlying38]
  refine eqFields_cons (a := .agg #[.string a0, .int .i64 a1, .int .i64 a2, .bool a3, .int .i64 a4, .int .i64 a5]) (b := .agg #[.string b0, .int .i64 b1, .int .i64 b2, .bool b3, .int .i64 b4, .int .i64 b5]) (by decide) (by go_simp) (by go_simp) (eq32 w d _ _ _ _ _ _ _ _ _ _ _ _) ?_
  refine eqFields_cons (a := .agg #[.int .i64 a6, .int .i64 a7, .int .i64 a8]) (b := .agg #[.int .i64 b6, .int .i64 b7, .int .i64 b8]) (by decide) (by go_simp) (by go_simp) (eq34 w d _ _ _ _ _ _) ?_
  refine eqFields_cons (a := .bool a9) (b := .bool b9) (r := (a9 == b9)) (by decide) (by go_simp) (by go_simp) (by go_simp) ?_
  refine eqFields_cons (a := .int .i64 a10) (b := .int .i64 b10) (r := (a10 == b10)) (by decide) (by go_simp) (by go_simp) (by go_simp) ?_
  refine eqFields_cons (a := .agg #[.bool a11, .int .i64 a12, .int .i64 a13, .int .i64 a14]) (b := .agg #[.bool b11, .int .i64 b12, .int .i64 b13, .int .i64 b14]) (by decide) (by go_simp) (by go_simp) (eq36 w d _ _ _ _ _ _ _ _) ?_
  refine eqFields_cons (a := .agg #[.bool a15, .int .i64 a16, .int .i64 a17, .int .i64 a18]) (b := .agg #[.bool b15, .int .i64 b16, .int .i64 b17, .int .i64 b18]) (by decide) (by go_simp) (by go_simp) (eq36 w d _ _ _ _ _ _ _ _) ?_
  exact eqFields_nil
theorem eql38 (w : World) (a0 : ByteArray) (a1 : Int) (a2 : Int) (a3 : Bool) (a4 : Int) (a5 : Int) (a6 : Int) (a7 : Int) (a8 : Int) (a9 : Bool) (a10 : Int) (a11 : Bool) (a12 : Int) (a13 : Int) (a14 : Int) (a15 : Bool) (a16 : Int) (a17 : Int) (a18 : Int) (b0 : ByteArray) (b1 : Int) (b2 : Int) (b3 : Bool) (b4 : Int) (b5 : Int) (b6 : Int) (b7 : Int) (b8 : Int) (b9 : Bool) (b10 : Int) (b11 : Bool) (b12 : Int) (b13 : Int) (b14 : Int) (b15 : Bool) (b16 : Int) (b17 : Int) (b18 : Int) :
    (binOp .eql 38 (.agg #[.string a0, .int .i64 a1, .int .i64 a2, .bool a3, .int .i64 a4, .int .i64 a5, .int .i64 a6, .int .i64 a7, .int .i64 a8, .bool a9, .int .i64 a10, .bool a11, .int .i64 a12, .int .i64 a13, .int .i64 a14, .bool a15, .int .i64 a16, .int .i64 a17, .int .i64 a18]) (.agg #[.string b0, .int .i64 b1, .int .i64 b2, .bool b3, .int .i64 b4, .int .i64 b5, .int .i64 b6, .int .i64 b7, .int .i64 b8, .bool b9, .int .i64 b10, .bool b11, .int .i64 b12, .int .i64 b13, .int .i64 b14, .bool b15, .int .i64 b16, .int .i64 b17, .int .i64 b18])).run Tryd.prog w = .ok (.bool (((a0.toList == b0.toList) && ((a1 == b1) && ((a2 == b2) && ((a3 == b3) && ((a4 == b4) && ((a5 == b5) && true)))))) && (((a6 == b6) && ((a7 == b7) && ((a8 == b8) && true))) && ((a9 == b9) && ((a10 == b10) && (((a11 == b11) && ((a12 == b12) && ((a13 == b13) && ((a14 == b14) && true)))) && (((a15 == b15) && ((a16 == b16) && ((a17 == b17) && ((a18 == b18) && true)))) && true))))))) w := by
  rw [run_eql_struct, show (10000 : Nat) = 9997 + 3 from rfl, eq38]
  rfl
theorem neq38 (w : World) (a0 : ByteArray) (a1 : Int) (a2 : Int) (a3 : Bool) (a4 : Int) (a5 : Int) (a6 : Int) (a7 : Int) (a8 : Int) (a9 : Bool) (a10 : Int) (a11 : Bool) (a12 : Int) (a13 : Int) (a14 : Int) (a15 : Bool) (a16 : Int) (a17 : Int) (a18 : Int) (b0 : ByteArray) (b1 : Int) (b2 : Int) (b3 : Bool) (b4 : Int) (b5 : Int) (b6 : Int) (b7 : Int) (b8 : Int) (b9 : Bool) (b10 : Int) (b11 : Bool) (b12 : Int) (b13 : Int) (b14 : Int) (b15 : Bool) (b16 : Int) (b17 : Int) (b18 : Int) :
    (binOp .neq 38 (.agg #[.string a0, .int .i64 a1, .int .i64 a2, .bool a3, .int .i64 a4, .int .i64 a5, .int .i64 a6, .int .i64 a7, .int .i64 a8, .bool a9, .int .i64 a10, .bool a11, .int .i64 a12, .int .i64 a13, .int .i64 a14, .bool a15, .int .i64 a16, .int .i64 a17, .int .i64 a18]) (.agg #[.string b0, .int .i64 b1, .int .i64 b2, .bool b3, .int .i64 b4, .int .i64 b5, .int .i64 b6, .int .i64 b7, .int .i64 b8, .bool b9, .int .i64 b10, .bool b11, .int .i64 b12, .int .i64 b13, .int .i64 b14, .bool b15, .int .i64 b16, .int .i64 b17, .int .i64 b18])).run Tryd.prog w = .ok (.bool (!(((a0.toList == b0.toList) && ((a1 == b1) && ((a2 == b2) && ((a3 == b3) && ((a4 == b4) && ((a5 == b5) && true)))))) && (((a6 == b6) && ((a7 == b7) && ((a8 == b8) && true))) && ((a9 == b9) && ((a10 == b10) && (((a11 == b11) && ((a12 == b12) && ((a13 == b13) && ((a14 == b14) && true)))) && (((a15 == b15) && ((a16 == b16) && ((a17 == b17) && ((a18 == b18) && true)))) && true)))))))) w := by
  rw [run_neq_struct, show (10000 : Nat) = 9997 + 3 from rfl, eq38]
  rfl

end Go.Proofs.YticmjlnpjopfbaaDoor
