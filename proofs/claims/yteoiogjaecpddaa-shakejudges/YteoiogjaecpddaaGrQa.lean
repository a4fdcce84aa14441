/-
  A packet lies in memory.
-/
import Derived.Test.YteoiogjaecpddaaHeld
import Derived.Test.YteoiogjaecpddaaM0
import Derived.Laws.StructEq
import Derived.Laws.Rows
import Derived.RangeFuncRecord
import Derived.Deep.WholeRow
namespace Go.Proofs.Yteoiogjaecpddaa.P
open Go.RowKit
set_option linter.unusedVariables false
set_option linter.unusedSimpArgs false

def bytesL (s : ByteArray) : List Int := s.data.toList.map fun b => (b.toNat : Int)
theorem bytesL_length (s : ByteArray) : (bytesL s).length = s.size := by simp [bytesL]
/-! ### Packets -/
structure Ex where
  has : Bool
  value : Int
  origin : Int
  age : Int
structure Itm where
  name : ByteArray
  epoch : Int
  maker : Int
  alive : Bool
  kind : Int
  scale : Int
  ver : Int
  writer : Int
  flow : Int
  hasRest : Bool
  rest : Int
  mn : Ex
  mx : Ex
structure Pkt where
  kind : Int
  src : Int
  dst : Int
  boot : Int
  life : Int
  echo : Int
  echoLife : Int
  items : List Itm
def exZ : Ex := ⟨false, 0, 0, 0⟩
def itZ : Itm := ⟨⟨#[]⟩, 0, 0, false, 0, 0, 0, 0, 0, false, 0, exZ, exZ⟩
def pkZ : Pkt := ⟨0, 0, 0, 0, 0, 0, 0, []⟩

/-! ### What is fit -/
def inB (x lo hi : Int) : Bool := decide (lo ≤ x) && decide (x ≤ hi)
theorem inB_iff {x lo hi : Int} : inB x lo hi = true ↔ lo ≤ x ∧ x ≤ hi := by simp [inB]
def nodeB (n : Int) : Bool := decide (0 ≤ n) && decide (n < 16)
theorem nodeB_iff {n : Int} : nodeB n = true ↔ 0 ≤ n ∧ n < 16 := by simp [nodeB]
def flowB (x : Int) : Bool := inB x (-2147483647) 2147483647
def chrB (c : Int) : Bool := inB c 97 122 || inB c 48 57 || c == 95
def nameB (s : ByteArray) : Bool := inB s.size 1 16 && (bytesL s).all chrB
def exZB (e : Ex) : Bool := !e.has && e.value == 0 && e.origin == 0 && e.age == 0
def exB (e : Ex) : Bool := if e.has then flowB e.value && nodeB e.origin && inB e.age 0 63 else exZB e
def regZB (x : Itm) : Bool := x.ver == 0 && x.writer == 0 && x.flow == 0
def regB (x : Itm) : Bool := regZB x || (inB x.ver 1 1099511627776 && nodeB x.writer && flowB x.flow)
def chanB (x : Itm) : Bool := nameB x.name && inB x.epoch 1 1099511627776 && nodeB x.maker && inB x.kind 1 4 && inB x.scale 1 1048576 && (x.kind != 4 || x.scale == 1)
def partB (x : Itm) : Bool := if x.alive && x.kind != 4 then regB x && flowB x.rest && (x.hasRest || x.rest == 0) else regZB x && !x.hasRest && x.rest == 0
def extsB (x : Itm) : Bool := if x.alive && x.kind == 4 then exB x.mn && exB x.mx else exZB x.mn && exZB x.mx
def itemB (x : Itm) : Bool := chanB x && partB x && extsB x
/-- The item at the place i is fit, and its name is greater than the one ahead. -/
def placeB (l : List Itm) (i : Nat) : Bool := itemB (l.getD i itZ) && (i == 0 || Op.bytesLess (l.getD (i - 1) itZ).name.toList (l.getD i itZ).name.toList)
def itemsB (l : List Itm) : Bool := (List.range l.length).all (placeB l)
def headB (p : Pkt) : Bool := inB p.kind 1 5 && nodeB p.src && nodeB p.dst && p.src != p.dst && inB p.boot 1 1099511627776 && inB p.life 0 1099511627776 && (if p.kind == 1 then p.echo == 0 && p.echoLife == 0 else inB p.echo 1 1099511627776 && inB p.echoLife 0 1099511627776)
def listB (p : Pkt) : Bool := if p.kind != 3 && p.kind != 4 then p.items.length == 0 else decide (p.items.length ≤ 8) && itemsB p.items
def fitP (p : Pkt) : Bool := headB p && listB p
end Go.Proofs.Yteoiogjaecpddaa.P

namespace Go.Proofs.Yteoiogjaecpddaa.P
open Go.ChangeShapes Go.WideShapes Go.ChangeAt Go.RowKit
set_option linter.unusedVariables false

theorem within_any (x lo hi : Int) (w : World) :
    Calls Try.prog 49 #[.int .i64 x, .int .i64 lo, .int .i64 hi] w fun e w' => e = .returned (.bool (inB x lo hi)) ∧ w' = w := by
  go_enter Try.func49, Try.ntmps49
  go_wp2
  all_goals go_ret
  all_goals exact ⟨ret_bool (by rw [Bool.eq_iff_iff]; simp_all [inB] <;> omega), rfl⟩
theorem rnode_any (x : Int) (w : World) :
    Calls Try.prog 48 #[.int .i64 x] w fun e w' => e = .returned (.bool (nodeB x)) ∧ w' = w := by
  go_enter Try.func48, Try.ntmps48
  go_wp2
  all_goals go_ret
  all_goals exact ⟨ret_bool (by rw [Bool.eq_iff_iff]; simp_all [nodeB] <;> omega), rfl⟩
theorem flow_any (x : Int) (w : World) :
    Calls Try.prog 61 #[.int .i64 x] w fun e w' => e = .returned (.bool (flowB x)) ∧ w' = w := by
  go_enter Try.func61, Try.ntmps61
  go_wp2_with (go_at_call 49; refine (within_any _ _ _ _).mono ?_; rintro e w' ⟨rfl, hw⟩; rw [hw]; clear hw)
  all_goals go_ret
  all_goals exact ⟨rfl, rfl⟩
/-- A text whose first k bytes stand in names. -/
def chrs (s : ByteArray) (k : Nat) : Bool := ((bytesL s).take k).all chrB
theorem chrs_step (s : ByteArray) (k : Nat) (h : k < s.size) : chrs s (k + 1) = (chrs s k && chrB (s[k].toNat : Int)) := by
  unfold chrs
  rw [List.take_succ_eq_append_getElem (by rw [bytesL_length]; exact h)]
  simp [bytesL]
  rfl
theorem chrs_bad {s : ByteArray} {k : Nat} (h : chrs s k = false) : (bytesL s).all chrB = false := by
  unfold chrs at h
  rw [List.all_eq_false] at h ⊢
  obtain ⟨x, hx, hc⟩ := h
  exact ⟨x, List.mem_of_mem_take hx, hc⟩
theorem chrs_all (s : ByteArray) : chrs s s.size = (bytesL s).all chrB := by
  unfold chrs
  rw [List.take_of_length_le (by rw [bytesL_length]; omega)]

set_option maxHeartbeats 2000000 in
theorem rname_any (s : ByteArray) (w : World) : Calls Try.prog 59 #[.string s] w fun e w' => e = .returned (.bool (nameB s)) ∧ w' = w := by
  by_cases h0 : s.size < 1
  · have E : nameB s = false := by simp [nameB, inB]; omega
    rw [E]
    go_enter Try.func59, Try.ntmps59
    go_wp2
    all_goals go_ret
    all_goals exact ⟨rfl, rfl⟩
  · by_cases h1 : 16 < s.size
    · have E : nameB s = false := by simp [nameB, inB]; omega
      rw [E]
      go_enter Try.func59, Try.ntmps59
      go_wp2
      all_goals go_ret
      all_goals exact ⟨rfl, rfl⟩
    · have E : nameB s = (bytesL s).all chrB := by simp [nameB, inB]; omega
      have HE : Hid (nameB s = (bytesL s).all chrB) := E
      clear E
      go_enter Try.func59, Try.ntmps59
      go_wp2
      go_loopg [3] s.size (fun g ix wr => ∃ (j : Nat), ix = .int .i64 j ∧ j + g = s.size ∧ Hid (chrs s j = true) ∧ wr = w)
      case atStart => exact ⟨0, rfl, by omega, rfl, rfl⟩
      case round =>
        obtain ⟨j, rfl, hg, HC, rfl⟩ := hrel
        have HG : Hid (j + gk = s.size) := hg
        have hj : j ≤ s.size := by omega
        clear hg
        by_cases hlt : j < s.size
        · have hI : (j : Int) < (s.size : Int) := by omega
          have HS : Hid (chrs s (j + 1) = (chrs s j && chrB (s[j].toNat : Int))) := chrs_step s j hlt
          obtain ⟨c, hcc⟩ : ∃ c : Int, (s[j].toNat : Int) = c := ⟨_, rfl⟩
          rw [hcc] at HS
          have hcr : 0 ≤ c ∧ c < 256 := by have := s[j].toNat_lt; omega
          by_cases k1 : 97 ≤ c ∧ c ≤ 122
          · skip
            have HR : Hid (chrs s (j + 1) = true) := by show _ = _; rw [HS.out, HC.out]; simp [chrB, inB]; omega
            clear HS
            have a1 : 97 ≤ c := by omega
            have a2 : c ≤ 122 := by omega
            clear k1 hcr
            go_wp2
            go_roundg (gk - 1)
            case measure => have := HG.out; omega
            case rel => exact ⟨j + 1, by go_num, by have := HG.out; omega, HR, rfl⟩
          by_cases k2 : 48 ≤ c ∧ c ≤ 57
          · skip
            have HR : Hid (chrs s (j + 1) = true) := by show _ = _; rw [HS.out, HC.out]; simp [chrB, inB]; omega
            clear HS
            have a1 : ¬ 97 ≤ c := by omega
            have a3 : 48 ≤ c := by omega
            have a4 : c ≤ 57 := by omega
            clear k1 k2 hcr
            go_wp2
            go_roundg (gk - 1)
            case measure => have := HG.out; omega
            case rel => exact ⟨j + 1, by go_num, by have := HG.out; omega, HR, rfl⟩
          by_cases k3 : c = 95
          · skip
            have HR : Hid (chrs s (j + 1) = true) := by show _ = _; rw [HS.out, HC.out]; simp [chrB, inB]; omega
            clear HS
            have a1 : ¬ 97 ≤ c := by omega
            have a3 : 48 ≤ c := by omega
            have a4 : ¬ c ≤ 57 := by omega
            clear k1 k2 hcr
            go_wp2
            go_roundg (gk - 1)
            case measure => have := HG.out; omega
            case rel => exact ⟨j + 1, by go_num, by have := HG.out; omega, HR, rfl⟩
          by_cases k4 : c < 48
          · skip
            have HF : Hid (nameB s = false) := by
              show _ = _
              rw [HE.out]
              exact chrs_bad (k := j + 1) (by rw [HS.out]; simp [chrB, inB]; omega)
            clear HS
            have a1 : ¬ 97 ≤ c := by omega
            have a3 : ¬ 48 ≤ c := by omega
            have a5 : (c == 95) = false := by simp; omega
            clear k1 k2 hcr k3 k4
            go_wp2
            go_ret
            rw [HF.out]
            exact ⟨rfl, rfl⟩
          by_cases k5 : c < 97
          · skip
            have HF : Hid (nameB s = false) := by
              show _ = _
              rw [HE.out]
              exact chrs_bad (k := j + 1) (by rw [HS.out]; simp [chrB, inB]; omega)
            clear HS
            have a1 : ¬ 97 ≤ c := by omega
            have a3 : 48 ≤ c := by omega
            have a4 : ¬ c ≤ 57 := by omega
            have a5 : (c == 95) = false := by simp; omega
            clear k1 k2 hcr k3 k4 k5
            go_wp2
            go_ret
            rw [HF.out]
            exact ⟨rfl, rfl⟩
          · skip
            have HF : Hid (nameB s = false) := by
              show _ = _
              rw [HE.out]
              exact chrs_bad (k := j + 1) (by rw [HS.out]; simp [chrB, inB]; omega)
            clear HS
            have a1 : 97 ≤ c := by omega
            have a2 : ¬ c ≤ 122 := by omega
            have a3 : 48 ≤ c := by omega
            have a4 : ¬ c ≤ 57 := by omega
            have a5 : (c == 95) = false := by simp; omega
            clear k1 k2 hcr k3 k4 k5
            go_wp2
            go_ret
            rw [HF.out]
            exact ⟨rfl, rfl⟩
        · have HT : Hid (nameB s = true) := by
            show _ = _
            have e : j = s.size := by omega
            subst e
            rw [HE.out, ← chrs_all]
            exact HC.out
          go_wp2
          go_ret
          rw [HT.out]
          exact ⟨rfl, rfl⟩

end Go.Proofs.Yteoiogjaecpddaa.P

namespace Go.Proofs.Yteoiogjaecpddaa.P
open Go.ChangeShapes Go.WideShapes Go.ChangeAt Go.RowKit
set_option linter.unusedVariables false

abbrev exv (e : Ex) : Value := .agg #[.bool e.has, .int .i64 e.value, .int .i64 e.origin, .int .i64 e.age]
abbrev rgv (x : Itm) : Value := .agg #[.int .i64 x.ver, .int .i64 x.writer, .int .i64 x.flow]
abbrev chv (x : Itm) : Value := .agg #[.string x.name, .int .i64 x.epoch, .int .i64 x.maker, .bool x.alive, .int .i64 x.kind, .int .i64 x.scale]
def itc (x : Itm) : List Value := [.string x.name, .int .i64 x.epoch, .int .i64 x.maker, .bool x.alive, .int .i64 x.kind, .int .i64 x.scale, .int .i64 x.ver, .int .i64 x.writer, .int .i64 x.flow, .bool x.hasRest, .int .i64 x.rest,
  .bool x.mn.has, .int .i64 x.mn.value, .int .i64 x.mn.origin, .int .i64 x.mn.age, .bool x.mx.has, .int .i64 x.mx.value, .int .i64 x.mx.origin, .int .i64 x.mx.age]
abbrev itv (x : Itm) : Value := .agg #[.string x.name, .int .i64 x.epoch, .int .i64 x.maker, .bool x.alive, .int .i64 x.kind, .int .i64 x.scale, .int .i64 x.ver, .int .i64 x.writer, .int .i64 x.flow, .bool x.hasRest, .int .i64 x.rest,
  .bool x.mn.has, .int .i64 x.mn.value, .int .i64 x.mn.origin, .int .i64 x.mn.age, .bool x.mx.has, .int .i64 x.mx.value, .int .i64 x.mx.origin, .int .i64 x.mx.age]

set_option maxHeartbeats 2000000 in
theorem rext_any (e : Ex) (w : World) : Calls Try.prog 62 #[exv e] w fun r w' => r = .returned (.bool (exB e)) ∧ w' = w.alloc (.cells #[.bool e.has, .int .i64 e.value, .int .i64 e.origin, .int .i64 e.age] 77) := by
  obtain ⟨h, v, o, a⟩ := e
  go_enter Try.func62, Try.ntmps62
  go_wp2_with (first
    | (go_at_call 61; refine (flow_any _ _).mono ?_; rintro e w' ⟨rfl, hw⟩; rw [hw]; clear hw)
    | (go_at_call 48; refine (rnode_any _ _).mono ?_; rintro e w' ⟨rfl, hw⟩; rw [hw]; clear hw)
    | (go_at_call 49; refine (within_any _ _ _ _).mono ?_; rintro e w' ⟨rfl, hw⟩; rw [hw]; clear hw))
  all_goals go_ret
  all_goals exact ⟨ret_bool (by simp_all [exB, exZB]), by first | rfl | simp_all⟩

def scaleB (k s : Int) : Bool := inB s 1 1048576 && (k != 4 || s == 1)
theorem scale_ext (s : Int) : inB s 1 1 = scaleB 4 s := by
  rw [Bool.eq_iff_iff]; simp [scaleB, inB]; omega
end Go.Proofs.Yteoiogjaecpddaa.P

namespace Go.Proofs.Yteoiogjaecpddaa.P
open Go.ChangeShapes Go.WideShapes Go.ChangeAt Go.RowKit
set_option linter.unusedVariables false

theorem eqFields_cons {P : Program} {w : World} {d : Nat} {xs ys : Array Value} {f : Field} {fs : List Field} {a b : Value} {r q : Bool} (hn : f.name ≠ "_") (ha : (part f.type xs f.offset).run P w = .ok a w) (hb : (part f.type ys f.offset).run P w = .ok b w)
    (hr : (Op.equalIn d f.type a b).run P w = .ok r w) (hq : (Op.eqFields d xs ys fs).run P w = .ok q w) : (Op.eqFields d xs ys (f :: fs)).run P w = .ok (r && q) w := by
  simp only [Op.eqFields, Sem.run_bind, Sem.run_ite, if_pos hn, ha, hb, hr, Result.andThen_ok]
  cases r
  · simp
  · simpa using hq
theorem eqFields_nil {P : Program} {w : World} {d : Nat} {xs ys : Array Value} : (Op.eqFields d xs ys []).run P w = .ok true w := by simp [Op.eqFields]

set_option maxHeartbeats 1000000 in
theorem eq32 (w : World) (d : Nat) (a0 : ByteArray) (a1 : Int) (a2 : Int) (a3 : Bool) (a4 : Int) (a5 : Int) (b0 : ByteArray) (b1 : Int) (b2 : Int) (b3 : Bool) (b4 : Int) (b5 : Int) :
    (Op.equalIn (d + 2) 73 (.agg #[.string a0, .int .i64 a1, .int .i64 a2, .bool a3, .int .i64 a4, .int .i64 a5]) (.agg #[.string b0, .int .i64 b1, .int .i64 b2, .bool b3, .int .i64 b4, .int .i64 b5])).run Try.prog w = .ok ((a0.toList == b0.toList) && ((a1 == b1) && ((a2 == b2) && ((a3 == b3) && ((a4 == b4) && ((a5 == b5) && true)))))) w := by
  have hS : Try.prog.underlying 73 = some (.struct (Try.prog.fieldsOf 73)) := by kernel_rfl
  have hp : Try.prog.stoodInHeld 73 = false := by kernel_rfl
  rw [run_equalIn_agg w (d + 1) 73 _ _ hS hp]
  simp only [Program.fieldsOf, Try.underlying73]
  refine eqFields_cons (a := .string a0) (b := .string b0) (r := (a0.toList == b0.toList)) (by decide) (by go_simp) (by go_simp) (by go_simp) ?_
  refine eqFields_cons (a := .int .i64 a1) (b := .int .i64 b1) (r := (a1 == b1)) (by decide) (by go_simp) (by go_simp) (by go_simp) ?_
  refine eqFields_cons (a := .int .i64 a2) (b := .int .i64 b2) (r := (a2 == b2)) (by decide) (by go_simp) (by go_simp) (by go_simp) ?_
  refine eqFields_cons (a := .bool a3) (b := .bool b3) (r := (a3 == b3)) (by decide) (by go_simp) (by go_simp) (by go_simp) ?_
  refine eqFields_cons (a := .int .i64 a4) (b := .int .i64 b4) (r := (a4 == b4)) (by decide) (by go_simp) (by go_simp) (by go_simp) ?_
  refine eqFields_cons (a := .int .i64 a5) (b := .int .i64 b5) (r := (a5 == b5)) (by decide) (by go_simp) (by go_simp) (by go_simp) ?_
  exact eqFields_nil

set_option maxHeartbeats 1000000 in
theorem eq34 (w : World) (d : Nat) (a6 : Int) (a7 : Int) (a8 : Int) (b6 : Int) (b7 : Int) (b8 : Int) :
    (Op.equalIn (d + 2) 75 (.agg #[.int .i64 a6, .int .i64 a7, .int .i64 a8]) (.agg #[.int .i64 b6, .int .i64 b7, .int .i64 b8])).run Try.prog w = .ok ((a6 == b6) && ((a7 == b7) && ((a8 == b8) && true))) w := by
  have hS : Try.prog.underlying 75 = some (.struct (Try.prog.fieldsOf 75)) := by kernel_rfl
  have hp : Try.prog.stoodInHeld 75 = false := by kernel_rfl
  rw [run_equalIn_agg w (d + 1) 75 _ _ hS hp]
  simp only [Program.fieldsOf, Try.underlying75]
  refine eqFields_cons (a := .int .i64 a6) (b := .int .i64 b6) (r := (a6 == b6)) (by decide) (by go_simp) (by go_simp) (by go_simp) ?_
  refine eqFields_cons (a := .int .i64 a7) (b := .int .i64 b7) (r := (a7 == b7)) (by decide) (by go_simp) (by go_simp) (by go_simp) ?_
  refine eqFields_cons (a := .int .i64 a8) (b := .int .i64 b8) (r := (a8 == b8)) (by decide) (by go_simp) (by go_simp) (by go_simp) ?_
  exact eqFields_nil

set_option maxHeartbeats 1000000 in
theorem eq36 (w : World) (d : Nat) (a11 : Bool) (a12 : Int) (a13 : Int) (a14 : Int) (b11 : Bool) (b12 : Int) (b13 : Int) (b14 : Int) :
    (Op.equalIn (d + 2) 77 (.agg #[.bool a11, .int .i64 a12, .int .i64 a13, .int .i64 a14]) (.agg #[.bool b11, .int .i64 b12, .int .i64 b13, .int .i64 b14])).run Try.prog w = .ok ((a11 == b11) && ((a12 == b12) && ((a13 == b13) && ((a14 == b14) && true)))) w := by
  have hS : Try.prog.underlying 77 = some (.struct (Try.prog.fieldsOf 77)) := by kernel_rfl
  have hp : Try.prog.stoodInHeld 77 = false := by kernel_rfl
  rw [run_equalIn_agg w (d + 1) 77 _ _ hS hp]
  simp only [Program.fieldsOf, Try.underlying77]
  refine eqFields_cons (a := .bool a11) (b := .bool b11) (r := (a11 == b11)) (by decide) (by go_simp) (by go_simp) (by go_simp) ?_
  refine eqFields_cons (a := .int .i64 a12) (b := .int .i64 b12) (r := (a12 == b12)) (by decide) (by go_simp) (by go_simp) (by go_simp) ?_
  refine eqFields_cons (a := .int .i64 a13) (b := .int .i64 b13) (r := (a13 == b13)) (by decide) (by go_simp) (by go_simp) (by go_simp) ?_
  refine eqFields_cons (a := .int .i64 a14) (b := .int .i64 b14) (r := (a14 == b14)) (by decide) (by go_simp) (by go_simp) (by go_simp) ?_
  exact eqFields_nil

set_option maxHeartbeats 1000000 in
theorem eq38 (w : World) (d : Nat) (a0 : ByteArray) (a1 : Int) (a2 : Int) (a3 : Bool) (a4 : Int) (a5 : Int) (a6 : Int) (a7 : Int) (a8 : Int) (a9 : Bool) (a10 : Int) (a11 : Bool) (a12 : Int) (a13 : Int) (a14 : Int) (a15 : Bool) (a16 : Int) (a17 : Int) (a18 : Int) (b0 : ByteArray) (b1 : Int) (b2 : Int) (b3 : Bool) (b4 : Int) (b5 : Int) (b6 : Int) (b7 : Int) (b8 : Int) (b9 : Bool) (b10 : Int) (b11 : Bool) (b12 : Int) (b13 : Int) (b14 : Int) (b15 : Bool) (b16 : Int) (b17 : Int) (b18 : Int) :
    (Op.equalIn (d + 3) 79 (.agg #[.string a0, .int .i64 a1, .int .i64 a2, .bool a3, .int .i64 a4, .int .i64 a5, .int .i64 a6, .int .i64 a7, .int .i64 a8, .bool a9, .int .i64 a10, .bool a11, .int .i64 a12, .int .i64 a13, .int .i64 a14, .bool a15, .int .i64 a16, .int .i64 a17, .int .i64 a18]) (.agg #[.string b0, .int .i64 b1, .int .i64 b2, .bool b3, .int .i64 b4, .int .i64 b5, .int .i64 b6, .int .i64 b7, .int .i64 b8, .bool b9, .int .i64 b10, .bool b11, .int .i64 b12, .int .i64 b13, .int .i64 b14, .bool b15, .int .i64 b16, .int .i64 b17, .int .i64 b18])).run Try.prog w = .ok (((a0.toList == b0.toList) && ((a1 == b1) && ((a2 == b2) && ((a3 == b3) && ((a4 == b4) && ((a5 == b5) && true)))))) && (((a6 == b6) && ((a7 == b7) && ((a8 == b8) && true))) && ((a9 == b9) && ((a10 == b10) && (((a11 == b11) && ((a12 == b12) && ((a13 == b13) && ((a14 == b14) && true)))) && (((a15 == b15) && ((a16 == b16) && ((a17 == b17) && ((a18 == b18) && true)))) && true)))))) w := by
  have hS : Try.prog.underlying 79 = some (.struct (Try.prog.fieldsOf 79)) := by kernel_rfl
  have hp : Try.prog.stoodInHeld 79 = false := by kernel_rfl
  rw [run_equalIn_agg w (d + 2) 79 _ _ hS hp]
  simp only [Program.fieldsOf, Try.underlying79]
  refine eqFields_cons (a := .agg #[.string a0, .int .i64 a1, .int .i64 a2, .bool a3, .int .i64 a4, .int .i64 a5]) (b := .agg #[.string b0, .int .i64 b1, .int .i64 b2, .bool b3, .int .i64 b4, .int .i64 b5]) (by decide) (by go_simp) (by go_simp) (eq32 w d _ _ _ _ _ _ _ _ _ _ _ _) ?_
  refine eqFields_cons (a := .agg #[.int .i64 a6, .int .i64 a7, .int .i64 a8]) (b := .agg #[.int .i64 b6, .int .i64 b7, .int .i64 b8]) (by decide) (by go_simp) (by go_simp) (eq34 w d _ _ _ _ _ _) ?_
  refine eqFields_cons (a := .bool a9) (b := .bool b9) (r := (a9 == b9)) (by decide) (by go_simp) (by go_simp) (by go_simp) ?_
  refine eqFields_cons (a := .int .i64 a10) (b := .int .i64 b10) (r := (a10 == b10)) (by decide) (by go_simp) (by go_simp) (by go_simp) ?_
  refine eqFields_cons (a := .agg #[.bool a11, .int .i64 a12, .int .i64 a13, .int .i64 a14]) (b := .agg #[.bool b11, .int .i64 b12, .int .i64 b13, .int .i64 b14]) (by decide) (by go_simp) (by go_simp) (eq36 w d _ _ _ _ _ _ _ _) ?_
  refine eqFields_cons (a := .agg #[.bool a15, .int .i64 a16, .int .i64 a17, .int .i64 a18]) (b := .agg #[.bool b15, .int .i64 b16, .int .i64 b17, .int .i64 b18]) (by decide) (by go_simp) (by go_simp) (eq36 w d _ _ _ _ _ _ _ _) ?_
  exact eqFields_nil
theorem eql38 (w : World) (a0 : ByteArray) (a1 : Int) (a2 : Int) (a3 : Bool) (a4 : Int) (a5 : Int) (a6 : Int) (a7 : Int) (a8 : Int) (a9 : Bool) (a10 : Int) (a11 : Bool) (a12 : Int) (a13 : Int) (a14 : Int) (a15 : Bool) (a16 : Int) (a17 : Int) (a18 : Int) (b0 : ByteArray) (b1 : Int) (b2 : Int) (b3 : Bool) (b4 : Int) (b5 : Int) (b6 : Int) (b7 : Int) (b8 : Int) (b9 : Bool) (b10 : Int) (b11 : Bool) (b12 : Int) (b13 : Int) (b14 : Int) (b15 : Bool) (b16 : Int) (b17 : Int) (b18 : Int) :
    (binOp .eql 79 (.agg #[.string a0, .int .i64 a1, .int .i64 a2, .bool a3, .int .i64 a4, .int .i64 a5, .int .i64 a6, .int .i64 a7, .int .i64 a8, .bool a9, .int .i64 a10, .bool a11, .int .i64 a12, .int .i64 a13, .int .i64 a14, .bool a15, .int .i64 a16, .int .i64 a17, .int .i64 a18]) (.agg #[.string b0, .int .i64 b1, .int .i64 b2, .bool b3, .int .i64 b4, .int .i64 b5, .int .i64 b6, .int .i64 b7, .int .i64 b8, .bool b9, .int .i64 b10, .bool b11, .int .i64 b12, .int .i64 b13, .int .i64 b14, .bool b15, .int .i64 b16, .int .i64 b17, .int .i64 b18])).run Try.prog w = .ok (.bool (((a0.toList == b0.toList) && ((a1 == b1) && ((a2 == b2) && ((a3 == b3) && ((a4 == b4) && ((a5 == b5) && true)))))) && (((a6 == b6) && ((a7 == b7) && ((a8 == b8) && true))) && ((a9 == b9) && ((a10 == b10) && (((a11 == b11) && ((a12 == b12) && ((a13 == b13) && ((a14 == b14) && true)))) && (((a15 == b15) && ((a16 == b16) && ((a17 == b17) && ((a18 == b18) && true)))) && true))))))) w := by
  rw [run_eql_struct, show (10000 : Nat) = 9997 + 3 from rfl, eq38]
  rfl
theorem neq38 (w : World) (a0 : ByteArray) (a1 : Int) (a2 : Int) (a3 : Bool) (a4 : Int) (a5 : Int) (a6 : Int) (a7 : Int) (a8 : Int) (a9 : Bool) (a10 : Int) (a11 : Bool) (a12 : Int) (a13 : Int) (a14 : Int) (a15 : Bool) (a16 : Int) (a17 : Int) (a18 : Int) (b0 : ByteArray) (b1 : Int) (b2 : Int) (b3 : Bool) (b4 : Int) (b5 : Int) (b6 : Int) (b7 : Int) (b8 : Int) (b9 : Bool) (b10 : Int) (b11 : Bool) (b12 : Int) (b13 : Int) (b14 : Int) (b15 : Bool) (b16 : Int) (b17 : Int) (b18 : Int) :
    (binOp .neq 79 (.agg #[.string a0, .int .i64 a1, .int .i64 a2, .bool a3, .int .i64 a4, .int .i64 a5, .int .i64 a6, .int .i64 a7, .int .i64 a8, .bool a9, .int .i64 a10, .bool a11, .int .i64 a12, .int .i64 a13, .int .i64 a14, .bool a15, .int .i64 a16, .int .i64 a17, .int .i64 a18]) (.agg #[.string b0, .int .i64 b1, .int .i64 b2, .bool b3, .int .i64 b4, .int .i64 b5, .int .i64 b6, .int .i64 b7, .int .i64 b8, .bool b9, .int .i64 b10, .bool b11, .int .i64 b12, .int .i64 b13, .int .i64 b14, .bool b15, .int .i64 b16, .int .i64 b17, .int .i64 b18])).run Try.prog w = .ok (.bool (!(((a0.toList == b0.toList) && ((a1 == b1) && ((a2 == b2) && ((a3 == b3) && ((a4 == b4) && ((a5 == b5) && true)))))) && (((a6 == b6) && ((a7 == b7) && ((a8 == b8) && true))) && ((a9 == b9) && ((a10 == b10) && (((a11 == b11) && ((a12 == b12) && ((a13 == b13) && ((a14 == b14) && true)))) && (((a15 == b15) && ((a16 == b16) && ((a17 == b17) && ((a18 == b18) && true)))) && true)))))))) w := by
  rw [run_neq_struct, show (10000 : Nat) = 9997 + 3 from rfl, eq38]
  rfl

end Go.Proofs.Yteoiogjaecpddaa.P

namespace Go.Proofs.Yteoiogjaecpddaa.P
open Go.ChangeShapes Go.WideShapes Go.ChangeAt Go.RowKit
set_option linter.unusedVariables false

theorem add_plain (g o j : Nat) : (⟨g, o, none⟩ : Addr).add j = ⟨g, o + j, none⟩ := by unfold Addr.add; split <;> simp_all
/-- A row of cells, loaded as one value. -/
theorem load_agg (w : World) (g off : Nat) (ty : TypeId) (cs : List Value) (d : TypeDesc) (hc : ∀ j v, cs[j]? = some v → w.cell? ⟨g, off + j, none⟩ = some v)
    (hu : Try.prog.underlying ty = some d) (hd : (match d with | .struct _ | .array _ _ => true | _ => false) = true) (hi : (Try.prog.info? ty).map (·.size) = some cs.length) :
    (loadVar ty ⟨g, off, none⟩).run Try.prog w = .ok (.agg cs.toArray) w := by
  have hl : (loadCells ⟨g, off, none⟩ cs.length).run Try.prog w = .ok cs.toArray w :=
    run_loadCells_list (P := Try.prog) w ⟨g, off, none⟩ cs (fun j v hv => by rw [add_plain]; exact hc j v hv)
  cases hq : Try.prog.info? ty with
  | none => simp [hq] at hi
  | some i =>
    have hs : i.size = cs.length := by simpa [hq] using hi
    have hagg : (isAgg ty).run Try.prog w = .ok true w := by
      unfold isAgg
      rw [Sem.run_bind, run_underlying hu w]
      cases d <;> simp_all
    simp [loadVar, Sem.run_bind, hagg, sizeOf, typeInfo, hq, hs, hl]
theorem wp_load_agg {o : Oper} {a : Act} {w : World} {K : Act → World → Prop} {Q : Exit → Act → World → Prop} (ty : TypeId) (x : Operand) (ho : o.op = .load ty x)
    (g off : Nat) (hx : a.eval x = .pointer (some ⟨g, off, none⟩)) (cs : List Value) (d : TypeDesc) (hc : ∀ j v, cs[j]? = some v → w.cell? ⟨g, off + j, none⟩ = some v)
    (hu : Try.prog.underlying ty = some d) (hd : (match d with | .struct _ | .array _ _ => true | _ => false) = true) (hi : (Try.prog.info? ty).map (·.size) = some cs.length)
    (h : K (a.put o.dst (.agg cs.toArray)) w) : o.wp Try.prog a w K Q := by
  unfold Oper.wp execOp
  simp only [ho, hx, Instr.loadAt, Instr.sureAddr, Sem.run_bind, Sem.run_pure, Result.andThen_ok, load_agg w g off ty cs d hc hu hd hi]
  exact h

/-- An item lies there. -/
def ItAt (w : World) (g off : Nat) (x : Itm) : Prop := ∀ j v, (itc x)[j]? = some v → w.cell? ⟨g, off + j, none⟩ = some v
theorem itAt_new (w : World) (x : Itm) : ItAt (w.alloc (.cells #[.string x.name, .int .i64 x.epoch, .int .i64 x.maker, .bool x.alive, .int .i64 x.kind, .int .i64 x.scale, .int .i64 x.ver, .int .i64 x.writer, .int .i64 x.flow, .bool x.hasRest, .int .i64 x.rest, .bool x.mn.has, .int .i64 x.mn.value, .int .i64 x.mn.origin, .int .i64 x.mn.age, .bool x.mx.has, .int .i64 x.mx.value, .int .i64 x.mx.origin, .int .i64 x.mx.age] 79)) w.heap.size 0 x := by
  intro j v hj
  rw [cell_of_row _ _ _ _ 79 _ (World.alloc_heap_new w _), Nat.zero_add]
  have e : (itc x).toArray[j]? = some v := by simpa using hj
  exact e
theorem ItAt.lt {w : World} {g off : Nat} {x : Itm} (h : ItAt w g off x) : g < w.heap.size := by
  have h0 := h 0 _ rfl
  rcases Nat.lt_or_ge g w.heap.size with k | k
  · exact k
  · simp [World.cell?, Array.getElem?_eq_none k] at h0
theorem ItAt.of_block {w w' : World} {g off : Nat} {x : Itm} (h : ItAt w g off x) (hb : w'.heap[g]? = w.heap[g]?) : ItAt w' g off x :=
  fun j v hj => (World.cell?_of_block (a := ⟨g, off + j, none⟩) hb).trans (h j v hj)
theorem ItAt.below {w w' : World} {g off : Nat} {x : Itm} (h : ItAt w g off x) (hb : Below w.heap.size w w') : ItAt w' g off x := h.of_block (hb.block g h.lt)
theorem ItAt.alloc {w : World} {g off : Nat} {x : Itm} (h : ItAt w g off x) (o : Obj) : ItAt (w.alloc o) g off x := h.of_block (Below.heap_alloc _ _ _ h.lt)
theorem ItAt.drew {w : World} {g off : Nat} {x : Itm} (h : ItAt w g off x) : ItAt w.drew g off x := h.of_block rfl

theorem wpList_load38 {ops : Array Oper} {rest : List Oper} {o : Oper} {a : Act} {w : World} {Q : Exit → Act → World → Prop} (x : Operand) (ho : o.op = .load 79 x)
    (hw : Region.wanted o (yielded ops a.tmps) = true) (g off : Nat) (y : Itm) (hx : a.eval x = .pointer (some ⟨g, off, none⟩)) (hc : ItAt w g off y)
    (h : wpList Try.prog ops Q rest (a.put o.dst (itv y)) w) : wpList Try.prog ops Q (o :: rest) a w :=
  wpList_step fun K hK => by
    rw [if_pos hw]
    exact wp_load_agg 79 x ho g off hx (itc y) _ hc Try.underlying79 rfl (by kernel_rfl) (hK _ _ h)

end Go.Proofs.Yteoiogjaecpddaa.P

namespace Go.Proofs.Yteoiogjaecpddaa.P
open Go.ChangeShapes Go.WideShapes Go.ChangeAt Go.RowKit
set_option linter.unusedVariables false
set_option linter.unusedSimpArgs false

set_option maxRecDepth 100000 in
set_option maxHeartbeats 4000000 in
theorem ritem_no0 (x : Itm) (w : World) (k0 : nameB x.name = false) : Calls Try.prog 50 #[itv x] w fun r w' => r = .returned (.bool (itemB x)) ∧ Below w.heap.size w w' := by
  have HE : Hid (itemB x = false) := by show _ = _; simp [itemB, chanB, k0]
  go_enter Try.func50, Try.ntmps50
  go_wp2_with (first
    | (go_at_call 59; refine (rname_any _ _).mono ?_; rintro e w1 ⟨rfl, hw⟩; rw [hw]; clear hw; try simp only [k0])
    | (go_at_call 48; refine (rnode_any _ _).mono ?_; rintro e w1 ⟨rfl, hw⟩; rw [hw]; clear hw)
    | (go_at_call 61; refine (flow_any _ _).mono ?_; rintro e w1 ⟨rfl, hw⟩; rw [hw]; clear hw)
    | (go_at_call 62; refine (rext_any ⟨_, _, _, _⟩ _).mono ?_; rintro e w1 ⟨rfl, hw⟩; rw [hw]; clear hw)
    | (go_at_call 49; refine (within_any _ _ _ _).mono ?_; rintro e w1 ⟨rfl, hw⟩; rw [hw]; clear hw))
  all_goals go_ret
  all_goals exact ⟨by rw [HE.out]; rfl, by repeat (first | exact Below.refl _ _ | refine Below.alloc ?_ (by simp; omega) _ | refine Below.alloc ?_ (by simp) _)⟩
set_option maxRecDepth 100000 in
set_option maxHeartbeats 4000000 in
theorem ritem_no1 (x : Itm) (w : World) (k0 : nameB x.name = true) (k1 : inB x.epoch 1 1099511627776 = false) : Calls Try.prog 50 #[itv x] w fun r w' => r = .returned (.bool (itemB x)) ∧ Below w.heap.size w w' := by
  have HE : Hid (itemB x = false) := by show _ = _; simp [itemB, chanB, k1]
  go_enter Try.func50, Try.ntmps50
  go_wp2_with (first
    | (go_at_call 59; refine (rname_any _ _).mono ?_; rintro e w1 ⟨rfl, hw⟩; rw [hw]; clear hw; try simp only [k0])
    | (go_at_call 48; refine (rnode_any _ _).mono ?_; rintro e w1 ⟨rfl, hw⟩; rw [hw]; clear hw)
    | (go_at_call 61; refine (flow_any _ _).mono ?_; rintro e w1 ⟨rfl, hw⟩; rw [hw]; clear hw)
    | (go_at_call 62; refine (rext_any ⟨_, _, _, _⟩ _).mono ?_; rintro e w1 ⟨rfl, hw⟩; rw [hw]; clear hw)
    | (go_at_call 49; refine (within_any _ _ _ _).mono ?_; rintro e w1 ⟨rfl, hw⟩; rw [hw]; clear hw))
  all_goals go_ret
  all_goals exact ⟨by rw [HE.out]; rfl, by repeat (first | exact Below.refl _ _ | refine Below.alloc ?_ (by simp; omega) _ | refine Below.alloc ?_ (by simp) _)⟩
set_option maxRecDepth 100000 in
set_option maxHeartbeats 4000000 in
theorem ritem_no2 (x : Itm) (w : World) (k0 : nameB x.name = true) (k1 : inB x.epoch 1 1099511627776 = true) (k2 : nodeB x.maker = false) : Calls Try.prog 50 #[itv x] w fun r w' => r = .returned (.bool (itemB x)) ∧ Below w.heap.size w w' := by
  have HE : Hid (itemB x = false) := by show _ = _; simp [itemB, chanB, k2]
  go_enter Try.func50, Try.ntmps50
  go_wp2_with (first
    | (go_at_call 59; refine (rname_any _ _).mono ?_; rintro e w1 ⟨rfl, hw⟩; rw [hw]; clear hw; try simp only [k0])
    | (go_at_call 48; refine (rnode_any _ _).mono ?_; rintro e w1 ⟨rfl, hw⟩; rw [hw]; clear hw)
    | (go_at_call 61; refine (flow_any _ _).mono ?_; rintro e w1 ⟨rfl, hw⟩; rw [hw]; clear hw)
    | (go_at_call 62; refine (rext_any ⟨_, _, _, _⟩ _).mono ?_; rintro e w1 ⟨rfl, hw⟩; rw [hw]; clear hw)
    | (go_at_call 49; refine (within_any _ _ _ _).mono ?_; rintro e w1 ⟨rfl, hw⟩; rw [hw]; clear hw))
  all_goals go_ret
  all_goals exact ⟨by rw [HE.out]; rfl, by repeat (first | exact Below.refl _ _ | refine Below.alloc ?_ (by simp; omega) _ | refine Below.alloc ?_ (by simp) _)⟩
set_option maxRecDepth 100000 in
set_option maxHeartbeats 4000000 in
theorem ritem_no3 (x : Itm) (w : World) (k0 : nameB x.name = true) (k1 : inB x.epoch 1 1099511627776 = true) (k2 : nodeB x.maker = true) (k3 : x.kind < 1) : Calls Try.prog 50 #[itv x] w fun r w' => r = .returned (.bool (itemB x)) ∧ Below w.heap.size w w' := by
  have HE : Hid (itemB x = false) := by show _ = _; simp [itemB, chanB, inB]; omega
  go_enter Try.func50, Try.ntmps50
  go_wp2_with (first
    | (go_at_call 59; refine (rname_any _ _).mono ?_; rintro e w1 ⟨rfl, hw⟩; rw [hw]; clear hw; try simp only [k0])
    | (go_at_call 48; refine (rnode_any _ _).mono ?_; rintro e w1 ⟨rfl, hw⟩; rw [hw]; clear hw)
    | (go_at_call 61; refine (flow_any _ _).mono ?_; rintro e w1 ⟨rfl, hw⟩; rw [hw]; clear hw)
    | (go_at_call 62; refine (rext_any ⟨_, _, _, _⟩ _).mono ?_; rintro e w1 ⟨rfl, hw⟩; rw [hw]; clear hw)
    | (go_at_call 49; refine (within_any _ _ _ _).mono ?_; rintro e w1 ⟨rfl, hw⟩; rw [hw]; clear hw))
  all_goals go_ret
  all_goals exact ⟨by rw [HE.out]; rfl, by repeat (first | exact Below.refl _ _ | refine Below.alloc ?_ (by simp; omega) _ | refine Below.alloc ?_ (by simp) _)⟩
set_option maxRecDepth 100000 in
set_option maxHeartbeats 4000000 in
theorem ritem_no4 (x : Itm) (w : World) (k0 : nameB x.name = true) (k1 : inB x.epoch 1 1099511627776 = true) (k2 : nodeB x.maker = true) (k3 : 1 ≤ x.kind) (k4 : 4 < x.kind) : Calls Try.prog 50 #[itv x] w fun r w' => r = .returned (.bool (itemB x)) ∧ Below w.heap.size w w' := by
  have HE : Hid (itemB x = false) := by show _ = _; simp [itemB, chanB, inB]; omega
  go_enter Try.func50, Try.ntmps50
  go_wp2_with (first
    | (go_at_call 59; refine (rname_any _ _).mono ?_; rintro e w1 ⟨rfl, hw⟩; rw [hw]; clear hw; try simp only [k0])
    | (go_at_call 48; refine (rnode_any _ _).mono ?_; rintro e w1 ⟨rfl, hw⟩; rw [hw]; clear hw)
    | (go_at_call 61; refine (flow_any _ _).mono ?_; rintro e w1 ⟨rfl, hw⟩; rw [hw]; clear hw)
    | (go_at_call 62; refine (rext_any ⟨_, _, _, _⟩ _).mono ?_; rintro e w1 ⟨rfl, hw⟩; rw [hw]; clear hw)
    | (go_at_call 49; refine (within_any _ _ _ _).mono ?_; rintro e w1 ⟨rfl, hw⟩; rw [hw]; clear hw))
  all_goals go_ret
  all_goals exact ⟨by rw [HE.out]; rfl, by repeat (first | exact Below.refl _ _ | refine Below.alloc ?_ (by simp; omega) _ | refine Below.alloc ?_ (by simp) _)⟩
set_option maxRecDepth 100000 in
set_option maxHeartbeats 4000000 in
theorem ritem_no5 (x : Itm) (w : World) (k0 : nameB x.name = true) (k1 : inB x.epoch 1 1099511627776 = true) (k2 : nodeB x.maker = true) (k3 : 1 ≤ x.kind) (k4 : x.kind ≤ 4) (k5 : inB x.scale 1 1048576 = false) : Calls Try.prog 50 #[itv x] w fun r w' => r = .returned (.bool (itemB x)) ∧ Below w.heap.size w w' := by
  have HE : Hid (itemB x = false) := by show _ = _; simp [itemB, chanB, k5]
  go_enter Try.func50, Try.ntmps50
  go_wp2_with (first
    | (go_at_call 59; refine (rname_any _ _).mono ?_; rintro e w1 ⟨rfl, hw⟩; rw [hw]; clear hw; try simp only [k0])
    | (go_at_call 48; refine (rnode_any _ _).mono ?_; rintro e w1 ⟨rfl, hw⟩; rw [hw]; clear hw)
    | (go_at_call 61; refine (flow_any _ _).mono ?_; rintro e w1 ⟨rfl, hw⟩; rw [hw]; clear hw)
    | (go_at_call 62; refine (rext_any ⟨_, _, _, _⟩ _).mono ?_; rintro e w1 ⟨rfl, hw⟩; rw [hw]; clear hw)
    | (go_at_call 49; refine (within_any _ _ _ _).mono ?_; rintro e w1 ⟨rfl, hw⟩; rw [hw]; clear hw))
  all_goals go_ret
  all_goals exact ⟨by rw [HE.out]; rfl, by repeat (first | exact Below.refl _ _ | refine Below.alloc ?_ (by simp; omega) _ | refine Below.alloc ?_ (by simp) _)⟩
set_option maxRecDepth 100000 in
set_option maxHeartbeats 4000000 in
theorem ritem_no6 (x : Itm) (w : World) (k0 : nameB x.name = true) (k1 : inB x.epoch 1 1099511627776 = true) (k2 : nodeB x.maker = true) (k3 : 1 ≤ x.kind) (k4 : x.kind ≤ 4) (k5 : inB x.scale 1 1048576 = true) (k6 : x.kind = 4) (k7 : (x.scale != 1) = true) : Calls Try.prog 50 #[itv x] w fun r w' => r = .returned (.bool (itemB x)) ∧ Below w.heap.size w w' := by
  have HE : Hid (itemB x = false) := by show _ = _; have h := k7; simp at h; simp [itemB, chanB, k6, h]
  clear k3 k4
  go_enter Try.func50, Try.ntmps50
  go_wp2_with (first
    | (go_at_call 59; refine (rname_any _ _).mono ?_; rintro e w1 ⟨rfl, hw⟩; rw [hw]; clear hw; try simp only [k0])
    | (go_at_call 48; refine (rnode_any _ _).mono ?_; rintro e w1 ⟨rfl, hw⟩; rw [hw]; clear hw)
    | (go_at_call 61; refine (flow_any _ _).mono ?_; rintro e w1 ⟨rfl, hw⟩; rw [hw]; clear hw)
    | (go_at_call 62; refine (rext_any ⟨_, _, _, _⟩ _).mono ?_; rintro e w1 ⟨rfl, hw⟩; rw [hw]; clear hw)
    | (go_at_call 49; refine (within_any _ _ _ _).mono ?_; rintro e w1 ⟨rfl, hw⟩; rw [hw]; clear hw))
  all_goals go_ret
  all_goals exact ⟨by rw [HE.out]; rfl, by repeat (first | exact Below.refl _ _ | refine Below.alloc ?_ (by simp; omega) _ | refine Below.alloc ?_ (by simp) _)⟩

end Go.Proofs.Yteoiogjaecpddaa.P

namespace Go.Proofs.Yteoiogjaecpddaa.P
open Go.ChangeShapes Go.WideShapes Go.ChangeAt Go.RowKit
set_option linter.unusedVariables false
set_option linter.unusedSimpArgs false

set_option maxRecDepth 100000 in
set_option maxHeartbeats 4000000 in
theorem ritem_dead (x : Itm) (w : World) (hc : chanB x = true) (k0 : nameB x.name = true) (k1 : inB x.epoch 1 1099511627776 = true) (k2 : nodeB x.maker = true) (k3 : 1 ≤ x.kind) (k4 : x.kind ≤ 4) (k5 : inB x.scale 1 1048576 = true) (k6 : (x.kind == 4) = false) (ha : x.alive = false) : Calls Try.prog 50 #[itv x] w fun r w' => r = .returned (.bool (itemB x)) ∧ Below w.heap.size w w' := by
  have HF : Hid (itemB x = (regZB x && !x.hasRest && x.rest == 0 && (exZB x.mn && exZB x.mx))) := by show _ = _; simp [itemB, hc, partB, extsB, ha]
  clear hc
  obtain ⟨nm, ep, mk, al, kd, sc, vr, wr, fl, hr, rs, ⟨h1, v1, o1, a1⟩, ⟨h2, v2, o2, a2⟩⟩ := x
  obtain rfl : al = false := ha
  simp only at k0 k1 k2 k3 k4 k5 k6
  go_enter Try.func50, Try.ntmps50
  go_wp2_with (first
    | (go_at_call 59; refine (rname_any _ _).mono ?_; rintro e w1 ⟨rfl, hw⟩; rw [hw]; clear hw; try simp only [k0])
    | (go_at_call 48; refine (rnode_any _ _).mono ?_; rintro e w1 ⟨rfl, hw⟩; rw [hw]; clear hw)
    | (go_at_call 61; refine (flow_any _ _).mono ?_; rintro e w1 ⟨rfl, hw⟩; rw [hw]; clear hw)
    | (go_at_call 62; refine (rext_any ⟨_, _, _, _⟩ _).mono ?_; rintro e w1 ⟨rfl, hw⟩; rw [hw]; clear hw)
    | (go_at_call 49; refine (within_any _ _ _ _).mono ?_; rintro e w1 ⟨rfl, hw⟩; rw [hw]; clear hw))
  all_goals go_ret
  all_goals refine ⟨ret_bool ?_, by repeat (first | exact Below.refl _ _ | refine Below.alloc ?_ (by simp; omega) _ | refine Below.alloc ?_ (by simp) _)⟩
  all_goals (rw [HF.out]; simp_all [regZB, exZB])
set_option maxRecDepth 100000 in
set_option maxHeartbeats 4000000 in
theorem ritem_dead4 (x : Itm) (w : World) (hc : chanB x = true) (k0 : nameB x.name = true) (k1 : inB x.epoch 1 1099511627776 = true) (k2 : nodeB x.maker = true) (k3 : x.kind = 4) (k5 : x.scale = 1) (ha : x.alive = false) : Calls Try.prog 50 #[itv x] w fun r w' => r = .returned (.bool (itemB x)) ∧ Below w.heap.size w w' := by
  have HF : Hid (itemB x = (regZB x && !x.hasRest && x.rest == 0 && (exZB x.mn && exZB x.mx))) := by show _ = _; simp [itemB, hc, partB, extsB, ha]
  clear hc
  have k6 : inB 1 1 1048576 = true := by decide
  obtain ⟨nm, ep, mk, al, kd, sc, vr, wr, fl, hr, rs, ⟨h1, v1, o1, a1⟩, ⟨h2, v2, o2, a2⟩⟩ := x
  obtain rfl : al = false := ha
  obtain rfl : kd = 4 := k3
  obtain rfl : sc = 1 := k5
  simp only at k0 k1 k2
  go_enter Try.func50, Try.ntmps50
  go_wp2_with (first
    | (go_at_call 59; refine (rname_any _ _).mono ?_; rintro e w1 ⟨rfl, hw⟩; rw [hw]; clear hw; try simp only [k0])
    | (go_at_call 48; refine (rnode_any _ _).mono ?_; rintro e w1 ⟨rfl, hw⟩; rw [hw]; clear hw)
    | (go_at_call 61; refine (flow_any _ _).mono ?_; rintro e w1 ⟨rfl, hw⟩; rw [hw]; clear hw)
    | (go_at_call 62; refine (rext_any ⟨_, _, _, _⟩ _).mono ?_; rintro e w1 ⟨rfl, hw⟩; rw [hw]; clear hw)
    | (go_at_call 49; refine (within_any _ _ _ _).mono ?_; rintro e w1 ⟨rfl, hw⟩; rw [hw]; clear hw))
  all_goals go_ret
  all_goals refine ⟨ret_bool ?_, by repeat (first | exact Below.refl _ _ | refine Below.alloc ?_ (by simp; omega) _ | refine Below.alloc ?_ (by simp) _)⟩
  all_goals (rw [HF.out]; simp_all [regZB, exZB])
set_option maxRecDepth 100000 in
set_option maxHeartbeats 4000000 in
theorem ritem_ext (x : Itm) (w : World) (hc : chanB x = true) (k0 : nameB x.name = true) (k1 : inB x.epoch 1 1099511627776 = true) (k2 : nodeB x.maker = true) (k3 : x.kind = 4) (k5 : x.scale = 1) (ha : x.alive = true) : Calls Try.prog 50 #[itv x] w fun r w' => r = .returned (.bool (itemB x)) ∧ Below w.heap.size w w' := by
  have HF : Hid (itemB x = (regZB x && !x.hasRest && x.rest == 0 && (exB x.mn && exB x.mx))) := by show _ = _; simp [itemB, hc, partB, extsB, ha, k3]
  clear hc
  have k6 : inB 1 1 1048576 = true := by decide
  obtain ⟨nm, ep, mk, al, kd, sc, vr, wr, fl, hr, rs, ⟨h1, v1, o1, a1⟩, ⟨h2, v2, o2, a2⟩⟩ := x
  obtain rfl : al = true := ha
  obtain rfl : kd = 4 := k3
  obtain rfl : sc = 1 := k5
  simp only at k0 k1 k2
  go_enter Try.func50, Try.ntmps50
  go_wp2_with (first
    | (go_at_call 59; refine (rname_any _ _).mono ?_; rintro e w1 ⟨rfl, hw⟩; rw [hw]; clear hw; try simp only [k0])
    | (go_at_call 48; refine (rnode_any _ _).mono ?_; rintro e w1 ⟨rfl, hw⟩; rw [hw]; clear hw)
    | (go_at_call 61; refine (flow_any _ _).mono ?_; rintro e w1 ⟨rfl, hw⟩; rw [hw]; clear hw)
    | (go_at_call 62; refine (rext_any ⟨_, _, _, _⟩ _).mono ?_; rintro e w1 ⟨rfl, hw⟩; rw [hw]; clear hw)
    | (go_at_call 49; refine (within_any _ _ _ _).mono ?_; rintro e w1 ⟨rfl, hw⟩; rw [hw]; clear hw))
  all_goals go_ret
  all_goals refine ⟨ret_bool ?_, by repeat (first | exact Below.refl _ _ | refine Below.alloc ?_ (by simp; omega) _ | refine Below.alloc ?_ (by simp) _)⟩
  all_goals (rw [HF.out]; simp_all [regZB, exZB])
set_option maxRecDepth 100000 in
set_option maxHeartbeats 4000000 in
theorem ritem_flow (x : Itm) (w : World) (hc : chanB x = true) (k0 : nameB x.name = true) (k1 : inB x.epoch 1 1099511627776 = true) (k2 : nodeB x.maker = true) (k3 : 1 ≤ x.kind) (k4 : x.kind ≤ 4) (k5 : inB x.scale 1 1048576 = true) (k6 : (x.kind == 4) = false) (k7 : (x.kind != 4) = true) (ha : x.alive = true) : Calls Try.prog 50 #[itv x] w fun r w' => r = .returned (.bool (itemB x)) ∧ Below w.heap.size w w' := by
  have HF : Hid (itemB x = (regB x && (flowB x.rest && (x.hasRest || x.rest == 0)) && (exZB x.mn && exZB x.mx))) := by show _ = _; have h4 := k6; simp at h4; simp [itemB, hc, partB, extsB, ha, h4, Bool.and_assoc]
  clear hc
  obtain ⟨nm, ep, mk, al, kd, sc, vr, wr, fl, hr, rs, ⟨h1, v1, o1, a1⟩, ⟨h2, v2, o2, a2⟩⟩ := x
  obtain rfl : al = true := ha
  simp only at k0 k1 k2 k3 k4 k5 k6 k7
  go_enter Try.func50, Try.ntmps50
  go_wp2_with (first
    | (go_at_call 59; refine (rname_any _ _).mono ?_; rintro e w1 ⟨rfl, hw⟩; rw [hw]; clear hw; try simp only [k0])
    | (go_at_call 48; refine (rnode_any _ _).mono ?_; rintro e w1 ⟨rfl, hw⟩; rw [hw]; clear hw)
    | (go_at_call 61; refine (flow_any _ _).mono ?_; rintro e w1 ⟨rfl, hw⟩; rw [hw]; clear hw)
    | (go_at_call 62; refine (rext_any ⟨_, _, _, _⟩ _).mono ?_; rintro e w1 ⟨rfl, hw⟩; rw [hw]; clear hw)
    | (go_at_call 49; refine (within_any _ _ _ _).mono ?_; rintro e w1 ⟨rfl, hw⟩; rw [hw]; clear hw))
  all_goals go_ret
  all_goals refine ⟨ret_bool ?_, by repeat (first | exact Below.refl _ _ | refine Below.alloc ?_ (by simp; omega) _ | refine Below.alloc ?_ (by simp) _)⟩
  all_goals (rw [HF.out]; simp_all [regB, regZB, exZB])
theorem ritem_any (x : Itm) (w : World) : Calls Try.prog 50 #[itv x] w fun r w' => r = .returned (.bool (itemB x)) ∧ Below w.heap.size w w' := by
  cases k0 : nameB x.name with
  | false => exact ritem_no0 x w k0
  | true =>
  cases k1 : inB x.epoch 1 1099511627776 with
  | false => exact ritem_no1 x w k0 k1
  | true =>
  cases k2 : nodeB x.maker with
  | false => exact ritem_no2 x w k0 k1 k2
  | true =>
  by_cases k3 : 1 ≤ x.kind
  case neg => exact ritem_no3 x w k0 k1 k2 (by omega)
  by_cases k4 : x.kind ≤ 4
  case neg => exact ritem_no4 x w k0 k1 k2 k3 (by omega)
  cases k5 : inB x.scale 1 1048576 with
  | false => exact ritem_no5 x w k0 k1 k2 k3 k4 k5
  | true =>
  by_cases k6 : x.kind = 4
  · by_cases k7 : x.scale = 1
    · have hc : chanB x = true := by simp [chanB, k0, k1, k2, k5, k7]; simp [inB]; omega
      cases ha : x.alive with
      | false => exact ritem_dead4 x w hc k0 k1 k2 k6 k7 ha
      | true => exact ritem_ext x w hc k0 k1 k2 k6 k7 ha
    · exact ritem_no6 x w k0 k1 k2 k3 k4 k5 k6 (by simpa using k7)
  · have hc : chanB x = true := by simp [chanB, k0, k1, k2, k5, k6]; simp [inB]; omega
    cases ha : x.alive with
    | false => exact ritem_dead x w hc k0 k1 k2 k3 k4 k5 (by simpa using k6) ha
    | true => exact ritem_flow x w hc k0 k1 k2 k3 k4 k5 (by simpa using k6) (by simpa using k6) ha

end Go.Proofs.Yteoiogjaecpddaa.P

namespace Go.Proofs.Yteoiogjaecpddaa.P
open Go.ChangeShapes Go.WideShapes Go.ChangeAt Go.RowKit
set_option linter.unusedVariables false

abbrev itObj (x : Itm) : Obj := .cells #[.string x.name, .int .i64 x.epoch, .int .i64 x.maker, .bool x.alive, .int .i64 x.kind, .int .i64 x.scale, .int .i64 x.ver, .int .i64 x.writer, .int .i64 x.flow, .bool x.hasRest, .int .i64 x.rest, .bool x.mn.has, .int .i64 x.mn.value, .int .i64 x.mn.origin, .int .i64 x.mn.age, .bool x.mx.has, .int .i64 x.mx.value, .int .i64 x.mx.origin, .int .i64 x.mx.age] 79
abbrev pkv (p : Pkt) (a : Option Addr) (len cap : Nat) : Value := .agg #[.int .i64 p.kind, .int .i64 p.src, .int .i64 p.dst, .int .i64 p.boot, .int .i64 p.life, .int .i64 p.echo, .int .i64 p.echoLife, .slice a len cap]
abbrev pkObj (p : Pkt) (a : Option Addr) (len cap : Nat) : Obj := .cells #[.int .i64 p.kind, .int .i64 p.src, .int .i64 p.dst, .int .i64 p.boot, .int .i64 p.life, .int .i64 p.echo, .int .i64 p.echoLife, .slice a len cap] 40

theorem wpList_store38 {ops : Array Oper} {rest : List Oper} {o : Oper} {a : Act} {w : World} {Q : Exit → Act → World → Prop} (x y : Operand) (ho : o.op = .store 79 x y) (hg : o.guard = none) (z : Itm) (c : Array Value) (hc : c.size = 19)
    (hx : a.eval x = .pointer (some ⟨w.heap.size, 0, none⟩)) (hy : a.eval y = itv z)
    (h : wpList Try.prog ops Q rest (a.put o.dst undef) (w.alloc (itObj z))) : wpList Try.prog ops Q (o :: rest) a (w.alloc (.cells c 79)) :=
  wpList_plain hg fun K hK => by
    unfold Oper.wp execOp
    simp only [ho, hx, hy, Sem.run_bind]
    rw [run_storeAt_new w 79 c _ (by kernel_rfl) (by rw [hc]; rfl) (by simp [Value.oneCell'])]
    simp only [Result.andThen_ok, Sem.run_pure]
    exact hK _ _ h

/-- The items that a slice value leads to in a world. -/
structure RowI (w : World) (a : Option Addr) (len cap : Nat) (l : List Itm) : Prop where
  size : l.length = len
  le : len ≤ cap
  max : cap ≤ 9223372036854775807
  nil : a = none → len = 0 ∧ cap = 0
  mem : len = 0 ∨ ∃ b off, a = some ⟨b, off, none⟩ ∧ b < w.heap.size ∧ ∀ j, j < len → ItAt w b (off + j * 19) (l.getD j itZ)
theorem RowI.below {w w' : World} {a : Option Addr} {len cap : Nat} {l : List Itm} (R : RowI w a len cap l) (hb : Below w.heap.size w w') : RowI w' a len cap l where
  size := R.size
  le := R.le
  max := R.max
  nil := R.nil
  mem := R.mem.imp id fun ⟨b, off, e, h, c⟩ => ⟨b, off, e, Nat.lt_of_lt_of_le h hb.size, fun j hj => (c j hj).below hb⟩
theorem RowI.alloc {w : World} {a : Option Addr} {len cap : Nat} {l : List Itm} (R : RowI w a len cap l) (o : Obj) : RowI (w.alloc o) a len cap l := R.below ((Below.refl _ _).alloc (Nat.le_refl _) o)
theorem rowI_nil (w : World) : RowI w none 0 0 [] := ⟨rfl, Nat.le_refl _, by omega, fun _ => ⟨rfl, rfl⟩, .inl rfl⟩

end Go.Proofs.Yteoiogjaecpddaa.P

namespace Go.Proofs.Yteoiogjaecpddaa.P
open Go.ChangeShapes Go.WideShapes Go.ChangeAt Go.RowKit
set_option linter.unusedVariables false
set_option linter.unusedSimpArgs false

def echoB (p : Pkt) : Bool := if p.kind == 1 then p.echo == 0 && p.echoLife == 0 else inB p.echo 1 1099511627776 && inB p.echoLife 0 1099511627776
def incB (b l : Int) : Bool := inB b 1 1099511627776 && inB l 0 1099511627776
theorem fitP_eq (p : Pkt) : fitP p = (inB p.kind 1 5 && nodeB p.src && nodeB p.dst && p.src != p.dst && incB p.boot p.life && echoB p && listB p) := by
  simp [fitP, headB, incB, echoB, Bool.and_assoc]
/-- A packet lies there. -/
def pkc (p : Pkt) (a : Option Addr) (len cap : Nat) : List Value := [.int .i64 p.kind, .int .i64 p.src, .int .i64 p.dst, .int .i64 p.boot, .int .i64 p.life, .int .i64 p.echo, .int .i64 p.echoLife, .slice a len cap]
def PkAt (W : World) (pb : Nat) (p : Pkt) (a : Option Addr) (len cap : Nat) : Prop := ∀ j v, (pkc p a len cap)[j]? = some v → W.cell? ⟨pb, j, none⟩ = some v
theorem PkAt.lt {W : World} {pb : Nat} {p : Pkt} {a : Option Addr} {len cap : Nat} (h : PkAt W pb p a len cap) : pb < W.heap.size := by
  have h0 := h 0 _ rfl
  rcases Nat.lt_or_ge pb W.heap.size with k | k
  · exact k
  · simp [World.cell?, Array.getElem?_eq_none k] at h0
theorem PkAt.of_block {W W' : World} {pb : Nat} {p : Pkt} {a : Option Addr} {len cap : Nat} (h : PkAt W pb p a len cap) (hb : W'.heap[pb]? = W.heap[pb]?) : PkAt W' pb p a len cap :=
  fun j v hj => (World.cell?_of_block (a := ⟨pb, j, none⟩) hb).trans (h j v hj)
theorem PkAt.below {W W' : World} {pb : Nat} {p : Pkt} {a : Option Addr} {len cap : Nat} (h : PkAt W pb p a len cap) (hb : Below W.heap.size W W') : PkAt W' pb p a len cap := h.of_block (hb.block pb h.lt)
theorem pkAt_new (w : World) (p : Pkt) (a : Option Addr) (len cap : Nat) : PkAt (w.alloc (pkObj p a len cap)) w.heap.size p a len cap := by
  intro j v hj
  rw [cell_of_row _ _ _ _ 40 _ (World.alloc_heap_new w _)]
  simpa [pkc] using hj
theorem exec_load38 {o : Oper} {a : Act} {w : World} {xx : Operand} {g off : Nat} {y : Itm} (ho : o.op = .load 79 xx) (hx : a.eval xx = .pointer (some ⟨g, off, none⟩)) (hc : ItAt w g off y) :
    (execOp a.eval o).run Try.prog w = .ok (.value (itv y)) w := by
  unfold execOp
  simp only [ho, hx, Instr.loadAt, Instr.sureAddr, Sem.run_bind, Sem.run_pure, Result.andThen_ok, load_agg w g off 79 (itc y) _ hc Try.underlying79 rfl (by kernel_rfl)]
  rfl

end Go.Proofs.Yteoiogjaecpddaa.P
