/-
  Wide numbers are in one order; what is put together is taken apart; texts are there and back (P1.11): the law NumOrders returns true for every input.
-/
import Derived.Test.YtkhinpapiommiaaRows
import Derived.Test.YtkhinpapiommiaaAwake
import Derived.Test.YtkhinpapiommiaaText
import Derived.Deep.DeepCutAuto
import Derived.WalkKit
import Derived.ProofKit
import Derived.OpenShut
import Derived.ShutString
import Derived.ChangeOld
import Derived.Below
import Derived.Lib.SmallJoins
namespace Go.Proofs.Ytkhinpapiommiaa.numOrders
open Go.ChangeShapes Go.WideShapes Go.ChangeAt Go.RowKit Go.Joins
open Go.ChangeMaps (open_string shut_string)
set_option linter.unusedVariables false

theorem own : ownKnob Try.prog.godebug = none := by kernel_rfl
theorem laidOut : laidOutB Try.prog = true := by kernel_rfl

theorem cells35 : Try.prog.cellsOf 35 = 2 := by kernel_rfl

theorem shut_wide {H : Type} {enc : TypeId × Value → H} {W : World} {base : Nat} {spare : Nat → Bool} {held : Bool} {a b : Int} (wa : (Lit.int .u64 a).wf = true) (wb : (Lit.int .u64 b).wf = true) :
    DataW.Trod enc Try.prog W base spare held 35 (.agg #[.int .u64 a, .int .u64 b]) (.agg [.lit (.int .u64 a), .lit (.int .u64 b)]) [] :=
  shut_agg2 (y0 := (.lit (.int .u64 a), [])) (y1 := (.lit (.int .u64 b), [])) Try.underlying35 (by kernel_rfl) cells35 ⟨1, by simp [DataW.trod, Try.underlying33, wa]⟩ ⟨1, by simp [DataW.trod, Try.underlying33, wb]⟩


theorem u64_bd {n : Int} (h : (Lit.int .u64 n).wf = true) : 0 ≤ n ∧ n ≤ 18446744073709551615 := by
  have h1 : IntKind.u64.min = 0 := rfl
  have h2 : IntKind.u64.max = 18446744073709551615 := rfl
  simp only [Lit.wf, Bool.and_eq_true, decide_eq_true_eq] at h
  omega

/-! ### Plain: there and back -/
theorem pgo_snoc (l : List UInt8) (c : UInt8) : ∀ (a v : Int), pgo a l = some v → jOk v (c.toNat : Int) = true → pgo a (l ++ [c]) = some (v * 10 + ((c.toNat : Int) - 48)) := by
  induction l with
  | nil => intro a v h k; simp [pgo] at h; subst h; simp [pgo, k]
  | cons x l ih =>
    intro a v h k
    rw [List.cons_append, pgo]
    rw [pgo] at h
    split at h
    · rename_i q; rw [if_pos q]; exact ih _ _ h k
    · cases h
theorem jOk_digit {m : Nat} {v : Int} (hv : v * 10 + ((m : Int) % 10) < 340282366920938463463374607431768211456) : jOk v ((digit m).toNat : Int) = true := by
  rw [digit_toNat]
  unfold jOk digB ovW
  simp
  omega
theorem pgo_dgs (n : Nat) : n < 340282366920938463463374607431768211456 → pgo 0 (dgs n) = some (n : Int) := by
  induction n using Nat.strongRecOn with
  | _ n ih =>
    intro hn
    by_cases h : n < 10
    · rw [dgs_small h]
      have := pgo_snoc [] (digit n) 0 0 rfl (jOk_digit (by omega))
      rw [List.nil_append] at this
      rw [this, digit_toNat]
      simp
      omega
    · rw [dgs_big h]
      rw [pgo_snoc _ _ 0 ((n / 10 : Nat) : Int) (ih (n / 10) (by omega) (by omega)) (jOk_digit (by omega)), digit_toNat]
      simp
      omega
theorem dgs_len (k : Nat) : ∀ n : Nat, n < 10 ^ (k + 1) → (dgs n).length ≤ k + 1 := by
  induction k with
  | zero => intro n h; rw [dgs_small (by simpa using h)]; simp
  | succ k ih =>
    intro n h
    by_cases h0 : n < 10
    · rw [dgs_small h0]; simp
    · rw [dgs_big h0]
      have := ih (n / 10) (by rw [Nat.pow_succ] at h; omega)
      simp; omega
theorem digit_ne {n : Nat} (h : 1 ≤ n) (h' : n < 10) : digit n ≠ 48 := by
  intro e
  have := congrArg UInt8.toNat e
  rw [digit_toNat] at this
  have h2 : (48 : UInt8).toNat = 48 := rfl
  omega
theorem dgs_head (n : Nat) : 1 ≤ n → (dgs n).head? ≠ some 48 := by
  induction n using Nat.strongRecOn with
  | _ n ih =>
    intro h1
    by_cases h : n < 10
    · rw [dgs_small h]; simpa using digit_ne h1 h
    · rw [dgs_big h]
      have hp := dgs_pos (n / 10)
      have := ih (n / 10) (by omega) (by omega)
      cases e : dgs (n / 10) with
      | nil => rw [e] at hp; simp at hp
      | cons x l => rw [e] at this; simpa using this
theorem parse_dgs (n : Nat) (hn : n < 340282366920938463463374607431768211456) : parseO (dgs n) = some (n : Int) := by
  have b : badB (dgs n) = false := by
    have h1 := dgs_pos n
    have h2 := dgs_len 38 n (by have : (10 : Nat) ^ (38 + 1) = 1000000000000000000000000000000000000000 := by decide +kernel
                                omega)
    have e1 : (dgs n).isEmpty = false := by cases e : dgs n with
      | nil => rw [e] at h1; simp at h1
      | cons x l => rfl
    have e2 : decide (39 < (dgs n).length) = false := decide_eq_false (by omega)
    have e3 : (decide (1 < (dgs n).length) && (dgs n).head? == some 48) = false := by
      by_cases h : n < 10
      · rw [dgs_small h]; simp
      · have := dgs_head n (by omega)
        simp [this]
    unfold badB
    rw [e1, e2, e3]
    rfl
  unfold parseO
  rw [b]
  exact pgo_dgs n hn

theorem words_val {h l : Int} (h1 : 0 ≤ h) (h2 : h ≤ 18446744073709551615) (l1 : 0 ≤ l) (l2 : l ≤ 18446744073709551615) : hiW (val h l) = h ∧ lo64 (val h l) = l ∧ 0 ≤ val h l ∧ val h l < 340282366920938463463374607431768211456 := by
  unfold hiW hi64 lo64 val; omega

/-! ### The calls -/
theorem text_val (h l : Int) (w : World) (h1 : 0 ≤ h) (h2 : h ≤ 18446744073709551615) (l1 : 0 ≤ l) (l2 : l ≤ 18446744073709551615) :
    Calls Try.prog 30 #[wide h l] w fun e w' => e = .returned (.string ⟨(dgs (val h l).toNat).toArray⟩) ∧ Below w.heap.size w w' := by
  obtain ⟨e1, e2, e3, e4⟩ := words_val h1 h2 l1 l2
  have c := text_any (val h l) w e3 e4
  rw [e1, e2] at c
  exact c
theorem parse_back (h l : Int) (w : World) (h1 : 0 ≤ h) (h2 : h ≤ 18446744073709551615) (l1 : 0 ≤ l) (l2 : l ≤ 18446744073709551615) :
    Calls Try.prog 32 #[.string ⟨(dgs (val h l).toNat).toArray⟩] w fun e w' => e = .returned (.tuple #[wide h l, .int .i64 0]) ∧ Below w.heap.size w w' := by
  obtain ⟨e1, e2, e3, e4⟩ := words_val h1 h2 l1 l2
  have hl := dgs_len 38 (val h l).toNat (by have : (10 : Nat) ^ (38 + 1) = 1000000000000000000000000000000000000000 := by decide +kernel
                                            omega)
  have c := parse_any ⟨(dgs (val h l).toNat).toArray⟩ w (by show (dgs (val h l).toNat).length ≤ maxLen; unfold maxLen; omega)
  obtain ⟨q1, q2, q3⟩ := p_some (parse_dgs (val h l).toNat (by omega))
  rw [show ((⟨(dgs (val h l).toNat).toArray⟩ : ByteArray).data.toList) = dgs (val h l).toNat from rfl, q1, q2, q3, show (((val h l).toNat : Nat) : Int) = val h l by omega, e1, e2] at c
  exact c
theorem drop_back (ah al bh bl : Int) (w : World) (h1 : 0 ≤ ah) (h1' : ah ≤ 18446744073709551615) (h2 : 0 ≤ al) (h2' : al ≤ 18446744073709551615)
    (h3 : 0 ≤ bh) (h3' : bh ≤ 18446744073709551615) (h4 : 0 ≤ bl) (h4' : bl ≤ 18446744073709551615) (ho : ovW (val ah al + val bh bl) = false) :
    Calls Try.prog 26 #[wide (hiW (val ah al + val bh bl)) (lo64 (val ah al + val bh bl)), wide bh bl] w fun e w' => e = .returned (.tuple #[wide ah al, .bool true]) ∧ Below w.heap.size w w' := by
  obtain ⟨e1, e2, e3, e4⟩ := words_val h1 h1' h2 h2'
  obtain ⟨f1, f2, f3, f4⟩ := words_val h3 h3' h4 h4'
  have hs : val ah al + val bh bl < 340282366920938463463374607431768211456 := by unfold ovW at ho; simp at ho; exact ho
  have c := drop_any (hiW (val ah al + val bh bl)) (lo64 (val ah al + val bh bl)) bh bl w (hiW_bd _).1 (hiW_bd _).2 (lo64_bd _).1 (lo64_bd _).2 h3 h3' h4 h4'
  rw [val_self (by omega) hs] at c
  have l : lessB (val ah al + val bh bl) (val bh bl) = false := by unfold lessB; simp; omega
  have d : val ah al + val bh bl - val bh bl = val ah al := by omega
  rw [show drH (val ah al + val bh bl) (val bh bl) = ah by rw [drH, l, d]; exact e1, show drL (val ah al + val bh bl) (val bh bl) = al by rw [drL, l, d]; exact e2, l] at c
  exact c

theorem pl_yes' {s : Int} (h : ovW s = false) : plH s = hiW s ∧ plL s = lo64 s := by simp [plH, plL, h]

/-- The three arguments, boxed, and old memory. -/
structure Boxes (w0 : World) (ah al bh bl ch cl : Int) (W : World) : Prop where
  A : Two W w0.heap.size (.int .u64 ah) (.int .u64 al)
  B : Two W (w0.heap.size + 1) (.int .u64 bh) (.int .u64 bl)
  C : Two W (w0.heap.size + 1 + 1) (.int .u64 ch) (.int .u64 cl)
  old : Below w0.heap.size w0 W
theorem Boxes.below {w0 : World} {ah al bh bl ch cl : Int} {W w' : World} (h : Boxes w0 ah al bh bl ch cl W) (hb : Below W.heap.size W w') : Boxes w0 ah al bh bl ch cl w' := ⟨h.A.below hb, h.B.below hb, h.C.below hb, h.old.trans (hb.mono h.old.size)⟩
theorem Boxes.alloc {w0 : World} {ah al bh bl ch cl : Int} {W : World} (h : Boxes w0 ah al bh bl ch cl W) (o : Obj) : Boxes w0 ah al bh bl ch cl (W.alloc o) := ⟨h.A.alloc o, h.B.alloc o, h.C.alloc o, h.old.alloc h.old.size o⟩
theorem Boxes.cells {w0 : World} {ah al bh bl ch cl : Int} {W : World} (h : Boxes w0 ah al bh bl ch cl W) :
    W.cell? ⟨w0.heap.size, 0, none⟩ = some (.int .u64 ah) ∧ W.cell? ⟨w0.heap.size, 1, none⟩ = some (.int .u64 al) ∧ W.cell? ⟨w0.heap.size + 1, 0, none⟩ = some (.int .u64 bh) ∧ W.cell? ⟨w0.heap.size + 1, 1, none⟩ = some (.int .u64 bl) ∧ W.cell? ⟨w0.heap.size + 1 + 1, 0, none⟩ = some (.int .u64 ch) ∧ W.cell? ⟨w0.heap.size + 1 + 1, 1, none⟩ = some (.int .u64 cl) :=
  ⟨h.A.1, h.A.2.1, h.B.1, h.B.2.1, h.C.1, h.C.2.1⟩
theorem Boxes.start (w : World) (ah al bh bl ch cl : Int) (t : TypeId) : Boxes w ah al bh bl ch cl (((w.alloc (.cells #[.int .u64 ah, .int .u64 al] t)).alloc (.cells #[.int .u64 bh, .int .u64 bl] t)).alloc (.cells #[.int .u64 ch, .int .u64 cl] t)) :=
  ⟨((Two.new _ _ _ _).alloc _).alloc _, ((Two.new _ _ _ _).alloc _).at (by simp), (Two.new _ _ _ _).at (by simp), by go_grown⟩

set_option maxRecDepth 100000 in
set_option maxHeartbeats 2000000 in
theorem walk_in (ah al bh bl ch cl : Int) (w : World) (ah1 : 0 ≤ ah) (ah2 : ah ≤ 18446744073709551615) (al1 : 0 ≤ al) (al2 : al ≤ 18446744073709551615) (bh1 : 0 ≤ bh) (bh2 : bh ≤ 18446744073709551615) (bl1 : 0 ≤ bl) (bl2 : bl ≤ 18446744073709551615) (ch1 : 0 ≤ ch) (ch2 : ch ≤ 18446744073709551615) (cl1 : 0 ≤ cl) (cl2 : cl ≤ 18446744073709551615) :
    Calls Try.prog 8 #[wide ah al, wide bh bl, wide ch cl] w fun e w' => e = .returned (.bool true) ∧ Below w.heap.size w w' := by
  go_enter Try.func8, Try.ntmps8
  go_upto_region 1 with fail
  have I := Boxes.start w ah al bh bl ch cl 35
  obtain ⟨p0, p1, p2, p3, p4, p5⟩ := I.cells
  go_cut [55] (fun c wx => c = .bool false ∧ Boxes w ah al bh bl ch cl wx)
  case first =>
    by_cases cAB : val ah al < val bh bl
    · have hAB : lessB (val ah al) (val bh bl) = true := by unfold lessB; simpa using cAB
      have hBA : lessB (val bh bl) (val ah al) = false := by unfold lessB; simp; omega
      by_cases cBC : val bh bl < val ch cl
      · have hBC : lessB (val bh bl) (val ch cl) = true := by unfold lessB; simpa using cBC
        have hAC : lessB (val ah al) (val ch cl) = true := by unfold lessB; simp; omega
        clear cAB cBC
        go_wp2_with (go_at_call 28; refine (less_any _ _ _ _ _ (by assumption) (by assumption) (by assumption) (by assumption) (by assumption) (by assumption) (by assumption) (by assumption)).mono ?_; rintro e w1 ⟨rfl, hb⟩; replace I := Boxes.below I hb; clear hb p0 p1 p2 p3 p4 p5; obtain ⟨p0, p1, p2, p3, p4, p5⟩ := I.cells)
        go_meet
        exact ⟨rfl, I⟩
      · have hBC : lessB (val bh bl) (val ch cl) = false := by unfold lessB; simpa using cBC
        clear cAB cBC
        go_wp2_with (go_at_call 28; refine (less_any _ _ _ _ _ (by assumption) (by assumption) (by assumption) (by assumption) (by assumption) (by assumption) (by assumption) (by assumption)).mono ?_; rintro e w1 ⟨rfl, hb⟩; replace I := Boxes.below I hb; clear hb p0 p1 p2 p3 p4 p5; obtain ⟨p0, p1, p2, p3, p4, p5⟩ := I.cells)
        go_meet
        exact ⟨rfl, I⟩
    · have hAB : lessB (val ah al) (val bh bl) = false := by unfold lessB; simpa using cAB
      by_cases cBA : val bh bl < val ah al
      · have hBA : lessB (val bh bl) (val ah al) = true := by unfold lessB; simpa using cBA
        clear cAB cBA
        go_wp2_with (go_at_call 28; refine (less_any _ _ _ _ _ (by assumption) (by assumption) (by assumption) (by assumption) (by assumption) (by assumption) (by assumption) (by assumption)).mono ?_; rintro e w1 ⟨rfl, hb⟩; replace I := Boxes.below I hb; clear hb p0 p1 p2 p3 p4 p5; obtain ⟨p0, p1, p2, p3, p4, p5⟩ := I.cells)
        go_meet
        exact ⟨rfl, I⟩
      · have hBA : lessB (val bh bl) (val ah al) = false := by unfold lessB; simpa using cBA
        have e1 : ah = bh ∧ al = bl := by unfold val at cAB cBA; omega
        obtain ⟨e1, e2⟩ := e1
        subst e1 e2
        clear cAB cBA
        go_wp2_with (go_at_call 28; refine (less_any _ _ _ _ _ (by assumption) (by assumption) (by assumption) (by assumption) (by assumption) (by assumption) (by assumption) (by assumption)).mono ?_; rintro e w1 ⟨rfl, hb⟩; replace I := Boxes.below I hb; clear hb p0 p1 p2 p3 p4 p5; obtain ⟨p0, p1, p2, p3, p4, p5⟩ := I.cells)
        go_meet
        exact ⟨rfl, I⟩
  case rest =>
    obtain ⟨rfl, I⟩ := hcut
    clear p0 p1 p2 p3 p4 p5
    obtain ⟨p0, p1, p2, p3, p4, p5⟩ := I.cells
    have hcm : val bh bl + val ah al = val ah al + val bh bl := by omega
    have HCM : Hid _ := hcm
    clear hcm
    go_wp2_with fail
    refine (plus_any _ _ _ _ _ (by assumption) (by assumption) (by assumption) (by assumption) (by assumption) (by assumption) (by assumption) (by assumption)).mono ?_
    rintro e w1 ⟨rfl, hb⟩
    replace I := Boxes.below I hb
    clear hb p0 p1 p2 p3 p4 p5
    obtain ⟨p0, p1, p2, p3, p4, p5⟩ := I.cells
    have z1 := I.A.2.2.2.2
    have z2 := I.B.2.2.2.2
    have z3 := I.C.2.2.2.2
    go_wp2_with fail
    have T7 := Two.new w1 (.int .u64 (plH (val ah al + val bh bl))) (.int .u64 (plL (val ah al + val bh bl))) 35
    replace I := Boxes.alloc I (.cells #[.int .u64 (plH (val ah al + val bh bl)), .int .u64 (plL (val ah al + val bh bl))] 35)
    refine (plus_any _ _ _ _ _ (by assumption) (by assumption) (by assumption) (by assumption) (by assumption) (by assumption) (by assumption) (by assumption)).mono ?_
    rintro e w2 ⟨rfl, hb⟩
    rw [HCM.out]
    replace I := Boxes.below I hb
    replace T7 := T7.below hb
    clear hb p0 p1 p2 p3 p4 p5 z1 z2 z3
    obtain ⟨p0, p1, p2, p3, p4, p5⟩ := I.cells
    obtain ⟨t0, t1, t2, t3, t4⟩ := id T7
    have z1 := I.A.2.2.2.2
    have z2 := I.B.2.2.2.2
    have z3 := I.C.2.2.2.2
    by_cases ho : ovW (val ah al + val bh bl) = true
    · go_wp2_with fail
      replace I := Boxes.alloc I (.cells #[.int .u64 (plH (val ah al + val bh bl)), .int .u64 (plL (val ah al + val bh bl))] 35)
      refine (text_val _ _ _ (by assumption) (by assumption) (by assumption) (by assumption)).mono ?_
      rintro e w4 ⟨rfl, hb⟩
      replace I := Boxes.below I hb
      clear hb p0 p1 p2 p3 p4 p5 z1 z2 z3
      obtain ⟨p0, p1, p2, p3, p4, p5⟩ := I.cells
      go_wp2_with fail
      refine (parse_back _ _ _ (by assumption) (by assumption) (by assumption) (by assumption)).mono ?_
      rintro e w5 ⟨rfl, hb⟩
      replace I := Boxes.below I hb
      clear hb p0 p1 p2 p3 p4 p5
      obtain ⟨p0, p1, p2, p3, p4, p5⟩ := I.cells
      have z1 := I.A.2.2.2.2
      have z2 := I.B.2.2.2.2
      have z3 := I.C.2.2.2.2
      go_wp2_with fail
      replace I := Boxes.alloc I (.cells #[.int .u64 ah, .int .u64 al] 35)
      refine (awake_any _).mono ?_
      rintro e w6 ⟨rfl, hb⟩
      go_wp2
      go_ret
      exact ⟨rfl, (Boxes.below I hb).old⟩
    · have ho : ovW (val ah al + val bh bl) = false := by simpa using ho
      have HO : Hid _ := ho
      have PY : Hid _ := pl_yes' ho
      have e1 := PY.out.1
      have e2 := PY.out.2
      rw [e1] at t0
      rw [e2] at t1
      rw [e1, e2]
      clear e1 e2 T7
      go_wp2_with fail
      replace I := Boxes.alloc I (.cells #[.int .u64 (hiW (val ah al + val bh bl)), .int .u64 (lo64 (val ah al + val bh bl))] 35)
      refine (drop_back _ _ _ _ _ (by assumption) (by assumption) (by assumption) (by assumption) (by assumption) (by assumption) (by assumption) (by assumption) HO.out).mono ?_
      rintro e w3 ⟨rfl, hb⟩
      replace I := Boxes.below I hb
      clear hb p0 p1 p2 p3 p4 p5 z1 z2 z3 t0 t1 t2 t3 t4
      obtain ⟨p0, p1, p2, p3, p4, p5⟩ := I.cells
      have z1 := I.A.2.2.2.2
      have z2 := I.B.2.2.2.2
      have z3 := I.C.2.2.2.2
      go_wp2_with fail
      replace I := Boxes.alloc I (.cells #[.int .u64 ah, .int .u64 al] 35)
      refine (text_val _ _ _ (by assumption) (by assumption) (by assumption) (by assumption)).mono ?_
      rintro e w4 ⟨rfl, hb⟩
      replace I := Boxes.below I hb
      clear hb p0 p1 p2 p3 p4 p5 z1 z2 z3
      obtain ⟨p0, p1, p2, p3, p4, p5⟩ := I.cells
      go_wp2_with fail
      refine (parse_back _ _ _ (by assumption) (by assumption) (by assumption) (by assumption)).mono ?_
      rintro e w5 ⟨rfl, hb⟩
      replace I := Boxes.below I hb
      clear hb p0 p1 p2 p3 p4 p5
      obtain ⟨p0, p1, p2, p3, p4, p5⟩ := I.cells
      have z1 := I.A.2.2.2.2
      have z2 := I.B.2.2.2.2
      have z3 := I.C.2.2.2.2
      go_wp2_with fail
      replace I := Boxes.alloc I (.cells #[.int .u64 ah, .int .u64 al] 35)
      refine (awake_any _).mono ?_
      rintro e w6 ⟨rfl, hb⟩
      go_wp2
      go_ret
      exact ⟨rfl, (Boxes.below I hb).old⟩

theorem walk (ah al bh bl ch cl : Int) (w : World) (h1 : (Lit.int .u64 ah).wf = true) (h2 : (Lit.int .u64 al).wf = true) (h3 : (Lit.int .u64 bh).wf = true) (h4 : (Lit.int .u64 bl).wf = true) (h5 : (Lit.int .u64 ch).wf = true) (h6 : (Lit.int .u64 cl).wf = true) :
    Calls Try.prog 8 #[wide ah al, wide bh bl, wide ch cl] w fun e w' => e = .returned (.bool true) ∧ Below w.heap.size w w' :=
  walk_in ah al bh bl ch cl w (u64_bd h1).1 (u64_bd h1).2 (u64_bd h2).1 (u64_bd h2).2 (u64_bd h3).1 (u64_bd h3).2 (u64_bd h4).1 (u64_bd h4).2 (u64_bd h5).1 (u64_bd h5).2 (u64_bd h6).1 (u64_bd h6).2

set_option maxRecDepth 100000 in
theorem lifted (os : Os) (started : os.Started) (H : Type) (enc : TypeId × Value → H) :
    ReturnsInHanded {} Try.checked os 8 .any (Rows.numOrdersSpec.pre6 enc Try.prog Try.f8 Rows.numOrdersRow.domain false) (Rows.numOrdersSpec.post enc Try.prog Try.f8 false true false false) := by
  refine returnsInHanded_of_change (C := Try.checked) own started (by kernel_rfl) Try.func8
    (ChangeSpec.witness6 (enc := enc) (C := Try.checked) false ⟨#[], #[.agg #[.int .u64 0, .int .u64 0], .agg #[.int .u64 0, .int .u64 0], .agg #[.int .u64 0, .int .u64 0]], []⟩ 8 (by kernel_rfl) (by kernel_rfl) (by kernel_rfl) (by kernel_rfl)) ?_
  intro W base args ds gs before hval0 hW hcnd _
  have hval : ∀ (j : Nat) t v, Try.f8.params[j]? = some t → args[j]? = some v → Value.okWide Try.prog W .any base t v := hval0
  have hW' := hW
  obtain ⟨p, q, hA0, hV, rfl, hfz, hnd⟩ := hW
  have hA : DataW.TrodAll enc Try.prog W 0 (fun _ => true) true Try.f8.params.toList args.toList ds p := hA0
  rw [Try.params8] at hA hval
  obtain ⟨v0, vs0, d0, ds0, p0, q0, hargs, rfl, rfl, h0, r0⟩ := trodAll_cons hA
  obtain ⟨v1, vs1, d1, ds1, p1, q1, rfl, rfl, rfl, h1, r1⟩ := trodAll_cons r0
  obtain ⟨v2, vs2, d2, ds2, p2, q2, rfl, rfl, rfl, h2, r2⟩ := trodAll_cons r1
  obtain ⟨rfl, rfl, rfl⟩ := trodAll_nil r2
  obtain rfl : args = #[v0, v1, v2] := by cases args; simp_all
  obtain ⟨rfl, rfl⟩ := trodVars_none hV
  obtain ⟨c0, e0, y0, z0, m0, rfl, rfl, rfl, hy0, hz0⟩ := open_agg2 Try.underlying35 (by kernel_rfl) cells35 (hval 0 35 v0 rfl rfl) h0
  obtain ⟨a0, ea0, rfl, w0⟩ := DataW.trod_int Try.underlying33 hy0
  obtain ⟨b0, eb0, rfl, u0⟩ := DataW.trod_int Try.underlying33 hz0
  simp at ea0 eb0
  subst ea0 eb0
  obtain ⟨c1, e1, y1, z1, m1, rfl, rfl, rfl, hy1, hz1⟩ := open_agg2 Try.underlying35 (by kernel_rfl) cells35 (hval 1 35 v1 rfl rfl) h1
  obtain ⟨a1, ea1, rfl, w1⟩ := DataW.trod_int Try.underlying33 hy1
  obtain ⟨b1, eb1, rfl, u1⟩ := DataW.trod_int Try.underlying33 hz1
  simp at ea1 eb1
  subst ea1 eb1
  obtain ⟨c2, e2, y2, z2, m2, rfl, rfl, rfl, hy2, hz2⟩ := open_agg2 Try.underlying35 (by kernel_rfl) cells35 (hval 2 35 v2 rfl rfl) h2
  obtain ⟨a2, ea2, rfl, w2⟩ := DataW.trod_int Try.underlying33 hy2
  obtain ⟨b2, eb2, rfl, u2⟩ := DataW.trod_int Try.underlying33 hz2
  simp at ea2 eb2
  subst ea2 eb2
  clear hA0 hval0
  refine (walk a0 b0 a1 b1 a2 b2 W w0 u0 w1 u1 w2 u2).mono fun e W' ⟨he, bel⟩ => ?_
  subst he
  exact ⟨_, rfl, _, _, _, [], _, [], hW', trodAll_mk1 (shut_bool Try.underlying4 _), (trodAll_cons_mk (shut_wide w0 u0) (trodAll_cons_mk (shut_wide w1 u1) (trodAll_cons_mk (shut_wide w2 u2) trodAll_mk0))), rfl, bel.frame _, fun h => by cases h⟩

theorem over : Rows.numOrdersRow.holds Try.pinned (OpenSpec.ofChange Rows.numOrdersSpec) :=
  OpenClaim.holds_of_wide 8 Try.f8 rfl rfl rfl rfl rfl rfl rfl ⟨rfl, rfl, rfl, rfl, rfl⟩ rfl rfl rfl rfl rfl (by kernel_rfl) Try.func8 (by kernel_rfl)
    (of_decide_eq_true (by kernel_rfl)) (by unfold Func.isWrapper; first | (rw [if_pos (by decide +kernel)]; kernel_rfl) | (rw [if_neg (by decide +kernel)]; exact ⟨rfl, rfl⟩))
    (fun os started H enc _ => lifted os started H enc)

/-- The statement. -/
theorem proved : Rows.NumOrdersSaid := over
#print axioms proved
end Go.Proofs.Ytkhinpapiommiaa.numOrders
