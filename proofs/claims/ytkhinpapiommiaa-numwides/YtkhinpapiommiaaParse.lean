/-
  What num.Parse returns for every text: the number that it writes, if it is the text of a number of at most 128 bits.
-/
import Derived.Test.YtkhinpapiommiaaJoin
import Derived.WalkLawsBesides
import Derived.Deep.DeepCutAuto
import Derived.Deep.LoopGhost
namespace Go.Proofs.Ytkhinpapiommiaa
open Go.ChangeShapes Go.WideShapes Go.ChangeAt Go.RowKit
set_option linter.unusedVariables false

/-! ### Plain: reading digits -/
def pgo : Int → List UInt8 → Option Int
  | n, [] => some n
  | n, c :: l => if jOk n (c.toNat : Int) then pgo (n * 10 + ((c.toNat : Int) - 48)) l else none
def badB (l : List UInt8) : Bool := l.isEmpty || decide (39 < l.length) || (decide (1 < l.length) && l.head? == some 48)
def parseO (l : List UInt8) : Option Int := if badB l then none else pgo 0 l
def pH (l : List UInt8) : Int := match parseO l with | some n => hiW n | none => 0
def pL (l : List UInt8) : Int := match parseO l with | some n => lo64 n | none => 0
def pE (l : List UInt8) : Int := match parseO l with | some _ => 0 | none => 20
theorem p_none {l : List UInt8} (h : parseO l = none) : pH l = 0 ∧ pL l = 0 ∧ pE l = 20 := by simp [pH, pL, pE, h]
theorem p_some {l : List UInt8} {n : Int} (h : parseO l = some n) : pH l = hiW n ∧ pL l = lo64 n ∧ pE l = 0 := by simp [pH, pL, pE, h]
theorem ret_widei {a b c d p q : Int} (h : a = c) (l : b = d) (k : p = q) :
    Ending.returned (.tuple #[.agg #[.int .u64 a, .int .u64 b], .int .i64 p]) = .returned (.tuple #[.agg #[.int .u64 c, .int .u64 d], .int .i64 q]) := by rw [h, l, k]
theorem val_self {n : Int} (h : 0 ≤ n) (h' : n < 340282366920938463463374607431768211456) : val (hiW n) (lo64 n) = n := by unfold val hiW hi64 lo64; omega
theorem jOk_in {n c : Int} (h : 0 ≤ n) (k : jOk n c = true) : 0 ≤ n * 10 + (c - 48) ∧ n * 10 + (c - 48) < 340282366920938463463374607431768211456 := by
  unfold jOk digB ovW at k; simp at k; omega
theorem jH_ok {n c : Int} (k : jOk n c = true) : jH n c = hiW (n * 10 + (c - 48)) ∧ jL n c = lo64 (n * 10 + (c - 48)) := by simp [jH, jL, k]
theorem len_list (s : ByteArray) : s.data.toList.length = s.size := rfl
theorem drop_cons (s : ByteArray) (k : Nat) (h : k < s.size) : s.data.toList.drop k = s[k] :: s.data.toList.drop (k + 1) := by
  rw [List.drop_eq_getElem_cons (by rw [len_list]; exact h)]; rfl
theorem head_list (s : ByteArray) (h : 0 < s.size) : s.data.toList.head? = some s[0] := by
  have e := drop_cons s 0 h
  rw [List.drop_zero] at e
  rw [e]; rfl
theorem isEmpty_list (s : ByteArray) : s.data.toList.isEmpty = decide (s.size = 0) := by
  have e := len_list s
  rw [Bool.eq_iff_iff, List.isEmpty_iff, decide_eq_true_iff]
  constructor
  · intro h; rw [h] at e; simpa using e.symm
  · intro h; exact List.eq_nil_of_length_eq_zero (by omega)
theorem bad0 (s : ByteArray) (h : s.size = 0) : parseO s.data.toList = none := by
  have e : badB s.data.toList = true := by unfold badB; rw [isEmpty_list]; simp only [h, decide_true, Bool.true_or]
  unfold parseO; rw [e]; rfl
theorem bad39 (s : ByteArray) (h : 39 < s.size) : parseO s.data.toList = none := by
  have e : badB s.data.toList = true := by unfold badB; rw [len_list]; simp only [h, decide_true, Bool.true_or, Bool.or_true]
  unfold parseO; rw [e]; rfl
theorem badz (s : ByteArray) (h : 1 < s.size) (h0 : s[0] = 48) : parseO s.data.toList = none := by
  have e : badB s.data.toList = true := by unfold badB; rw [len_list, head_list s (by omega), h0]; simp only [h, decide_true, beq_self_eq_true, Bool.and_self, Bool.or_true]
  unfold parseO; rw [e]; rfl
theorem good (s : ByteArray) (h : ¬ s.size = 0) (h39 : ¬ 39 < s.size) (h0 : 1 < s.size → ¬ s[0]'(by omega) = 48) : parseO s.data.toList = pgo 0 s.data.toList := by
  have e : badB s.data.toList = false := by
    unfold badB; rw [len_list, isEmpty_list, head_list s (by omega)]
    by_cases k : 1 < s.size
    · have := h0 k
      simp only [h, h39, k, decide_false, decide_true, Bool.true_and, Bool.or_self, Bool.false_or]
      simpa using this
    · simp only [h, h39, k, decide_false, Bool.false_and, Bool.or_self]
  unfold parseO; rw [e]; rfl
theorem step_no {l l' : List UInt8} {n : Int} {k : Nat} {c : UInt8} (P : parseO l = pgo 0 l) (HP : pgo 0 l = pgo n (l.drop k)) (HX : l.drop k = c :: l') (no : jOk n (c.toNat : Int) = false) : parseO l = none := by
  rw [P, HP, HX, pgo, if_neg (by rw [no]; simp)]
theorem step_ok {l l' : List UInt8} {n : Int} {k : Nat} {c : UInt8} (HP : pgo 0 l = pgo n (l.drop k)) (HX : l.drop k = c :: l') (ok : jOk n (c.toNat : Int) = true) : pgo 0 l = pgo (n * 10 + ((c.toNat : Int) - 48)) l' := by
  rw [HP, HX, pgo, if_pos ok]
theorem step_end {l : List UInt8} {n : Int} {k : Nat} (P : parseO l = pgo 0 l) (HP : pgo 0 l = pgo n (l.drop k)) (h : l.length ≤ k) : parseO l = some n := by
  rw [P, HP, List.drop_eq_nil_of_le h, pgo]
theorem Two.drew {W : World} {k : Nat} {v0 v1 : Value} (h : Two W k v0 v1) : Two W.drew k v0 v1 := h
theorem emp_list (s : ByteArray) : s.toList = s.data.toList := by
  exact ByteArray.toList_eq s

set_option maxHeartbeats 4000000 in
theorem parse_good (s : ByteArray) (w : World) (hs : s.size ≤ 9223372036854775807) (em : s.toList.isEmpty = false) (c2 : s.size ≤ 39) (c0 : 0 < s.size) (hz0 : Hid (1 < s.size → ¬ s[0] = 48)) (P : Hid (parseO s.data.toList = pgo 0 s.data.toList)) :
    Calls Try.prog 32 #[.string s] w fun e w' => e = .returned (.tuple #[wide (pH s.data.toList) (pL s.data.toList), .int .i64 (pE s.data.toList)]) ∧ Below w.heap.size w w' := by
  go_enter Try.func32, Try.ntmps32
  go_upto_region 1 with fail
  go_cut [24] (fun c wx => c = .bool false ∧ wx = w.alloc (.cells #[.int .u64 0, .int .u64 0] 35))
  case first =>
    by_cases c4 : 1 < s.size
    · have hz : ((s[0].toNat : Int) == 48) = false := by
        simp only [beq_eq_false_iff_ne]
        intro h
        exact hz0.out c4 (UInt8.toNat_inj.1 (by have : (48 : UInt8).toNat = 48 := rfl; omega))
      go_wp2
      go_meet
      exact ⟨by simp; omega, rfl⟩
    · go_wp2
      go_meet
      exact ⟨by simp; omega, rfl⟩
  case rest =>
    obtain ⟨rfl, rfl⟩ := hcut
    go_wp2
    go_loopg [28] s.size (fun g i wr => ∃ (k : Nat) (n : Int), k + g = s.size ∧ i = .int .i64 k ∧ 0 ≤ n ∧ n < 340282366920938463463374607431768211456 ∧ Hid (pgo 0 s.data.toList = pgo n (s.data.toList.drop k)) ∧ Two wr (w.heap.size + 1) (.int .u64 (hiW n)) (.int .u64 (lo64 n)) ∧ Two wr w.heap.size (.int .u64 0) (.int .u64 0) ∧ Below w.heap.size w wr)
    case atStart => exact ⟨0, 0, by omega, rfl, by omega, by omega, rfl, (Two.new _ _ _ _).at (by simp), (Two.new _ _ _ _).alloc _, by go_grown⟩
    case round =>
      obtain ⟨k, n, hkg, rfl, hn0, hn1, HP, T1, T0, hB⟩ := hrel
      obtain ⟨q0, q1, g0, g1, z⟩ := id T1
      obtain ⟨q2, q3, g2, g3, z2⟩ := id T0
      have HK : Hid (k + gk = s.size) := hkg
      have hk : k ≤ s.size := by omega
      clear hkg
      by_cases hlt : k < s.size
      · have V : Hid (val (hiW n) (lo64 n) = n) := val_self hn0 hn1
        have HX : Hid (s.data.toList.drop k = s[k] :: s.data.toList.drop (k + 1)) := drop_cons s k hlt
        have hxb : s[k].toNat < 256 := s[k].toNat_lt
        have hI : (k : Int) < (s.size : Int) := by omega
        obtain ⟨n11, n12⟩ := hiW_bd n
        obtain ⟨n21, n22⟩ := lo64_bd n
        go_upto_region 7 with fail
        go_cut [6, 7] (fun p6 o wx => ∃ blk, p6 = .pointer (some ⟨blk, 0, none⟩) ∧ o = .bool (jOk n (s[k].toNat : Int)) ∧ w.heap.size + 1 < blk ∧ Two wx blk (.int .u64 (jH n (s[k].toNat : Int))) (.int .u64 (jL n (s[k].toNat : Int))) ∧ Two wx (w.heap.size + 1) (.int .u64 (hiW n)) (.int .u64 (lo64 n)) ∧ Two wx w.heap.size (.int .u64 0) (.int .u64 0) ∧ Below w.heap.size w wx)
        case first =>
          go_region_with (go_at_call 46; refine (join_any _ _ _ _ (by assumption) (by assumption) (by assumption) (by assumption) (by omega) (by omega)).mono ?_; rintro e w1 ⟨rfl, hb1⟩; rw [V.out]; have U1 : Two w1 (w.heap.size + 1) (.int .u64 (hiW n)) (.int .u64 (lo64 n)) := Two.below (by first | exact T1.drew | exact (T1.alloc _).drew) hb1; have U0 : Two w1 w.heap.size (.int .u64 0) (.int .u64 0) := Two.below (by first | exact T0.drew | exact (T0.alloc _).drew) hb1; obtain ⟨p0, p1, r0, r1, y⟩ := id U1; obtain ⟨p2, p3, r2, r3, y3⟩ := id U0; have hB1 : Below w.heap.size w w1 := Below.trans (Below.drew (by first | exact hB | exact hB.alloc hB.size _)) (hb1.mono (by have := hB.size; simp; omega)); first | (have U6 : Two w1 wr.heap.size (.int .u64 0) (.int .u64 0) := Two.below (by exact (Two.new wr _ _ _).drew) hb1; obtain ⟨p4, p5, r4, r5, y4⟩ := id U6) | skip)
          all_goals go_wp2_with fail
          all_goals go_meet
          all_goals
            first
              | (refine ⟨w1.heap.size, rfl, rfl, by omega, Two.new _ _ _ _, ?_, ?_, ?_⟩
                 · with_reducible exact Two.alloc U1 _
                 · with_reducible exact Two.alloc U0 _
                 · with_reducible exact Below.alloc hB1 hB1.size _)
              | (refine ⟨wr.heap.size, rfl, rfl, by omega, Two.set U6 _ _, ?_, ?_, ?_⟩
                 · with_reducible exact Two.far (Two.far U1 _ _ _ (by omega)) _ _ _ (by omega)
                 · with_reducible exact Two.far (Two.far U0 _ _ _ (by omega)) _ _ _ (by omega)
                 · with_reducible exact Below.setCell (Below.setCell hB1 hB.size _) hB.size _)
        case rest =>
          obtain ⟨blk, rfl, rfl, hblk, U6, U1, U0, hBx⟩ := hcut
          obtain ⟨p4, p5, r4, r5, y4⟩ := id U6
          obtain ⟨p0, p1, r0, r1, y⟩ := id U1
          obtain ⟨p2, p3, r2, r3, y3⟩ := id U0
          clear q0 q1 q2 q3 g0 g1 g2 g3
          by_cases ok : jOk n (s[k].toNat : Int) = true
          · go_wp2
            go_roundg (gk - 1)
            case measure => have := HK.out; omega
            case rel =>
              have jb := jOk_in hn0 ok
              have jw := jH_ok ok
              refine ⟨k + 1, n * 10 + ((s[k].toNat : Int) - 48), by have := HK.out; omega, by go_num, jb.1, jb.2, step_ok HP.out HX.out ok, ?_, ?_, ?_⟩
              · rw [← jw.1, ← jw.2]
                exact Two.set U1 _ _
              · exact Two.far (Two.far U0 _ _ _ (by omega)) _ _ _ (by omega)
              · exact (hBx.setCell (by simp) _).setCell (by simp) _
          · have ok : jOk n (s[k].toNat : Int) = false := by simpa using ok
            have E : Hid _ := p_none (step_no P.out HP.out HX.out ok)
            go_wp2
            exact bodyPost_ret (v := .tuple #[wide 0 0, .int .i64 20]) (by simp [results, Try.results32, go_sem, p2, p3]) rfl ⟨ret_widei E.out.1.symm E.out.2.1.symm E.out.2.2.symm, by go_grown⟩
      · have E : Hid _ := p_some (step_end P.out HP.out (by rw [len_list]; omega))
        go_wp2
        exact bodyPost_ret (v := .tuple #[wide (hiW n) (lo64 n), .int .i64 0]) (by simp [results, Try.results32, go_sem, q2, q3]) rfl ⟨ret_widei E.out.1.symm E.out.2.1.symm E.out.2.2.symm, by go_grown⟩

set_option maxHeartbeats 1000000 in
theorem parse_any (s : ByteArray) (w : World) (hs : s.size ≤ maxLen) :
    Calls Try.prog 32 #[.string s] w fun e w' => e = .returned (.tuple #[wide (pH s.data.toList) (pL s.data.toList), .int .i64 (pE s.data.toList)]) ∧ Below w.heap.size w w' := by
  unfold maxLen at hs
  by_cases c1 : s.size = 0
  · have em : s.toList.isEmpty = true := by rw [emp_list, isEmpty_list]; simp [c1]
    obtain ⟨e1, e2, e3⟩ := p_none (bad0 s c1)
    rw [e1, e2, e3]
    clear e1 e2 e3
    go_enter Try.func32, Try.ntmps32
    go_wp2
    go_returns
    exact ⟨rfl, by go_grown⟩
  have em : s.toList.isEmpty = false := by rw [emp_list, isEmpty_list]; simp [c1]
  by_cases c2 : 39 < s.size
  · have C1 : Hid _ := c1
    clear c1
    obtain ⟨e1, e2, e3⟩ := p_none (bad39 s c2)
    rw [e1, e2, e3]
    clear e1 e2 e3
    go_enter Try.func32, Try.ntmps32
    go_wp2
    go_returns
    exact ⟨rfl, by go_grown⟩
  by_cases c4 : 1 < s.size
  · by_cases c5 : s[0] = 48
    · have hz : ((s[0].toNat : Int) == 48) = true := by rw [c5]; rfl
      have C5 : Hid _ := c5
      have C1 : Hid _ := c1
      clear c1
      obtain ⟨e1, e2, e3⟩ := p_none (badz s c4 c5)
      rw [e1, e2, e3]
      clear e1 e2 e3
      go_enter Try.func32, Try.ntmps32
      go_wp2
      go_returns
      exact ⟨rfl, by go_grown⟩
    exact parse_good s w (by omega) em (by omega) (by omega) (fun _ => c5) (good s c1 c2 (fun _ => c5))
  · exact parse_good s w (by omega) em (by omega) (by omega) (fun h => absurd h c4) (good s c1 c2 (fun h => absurd h c4))

end Go.Proofs.Ytkhinpapiommiaa
