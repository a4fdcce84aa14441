/-
  What the document's own Parse returns for every text: the same as num.Parse.
-/
import Derived.Test.YtkhinpapiommiaaParse
import Derived.Test.YtkhinpapiommiaaRefs
namespace Go.Proofs.Ytkhinpapiommiaa
open Go.ChangeShapes Go.WideShapes Go.ChangeAt Go.RowKit
set_option linter.unusedVariables false

theorem one48 (s : ByteArray) (h0 : 0 < s.size) (hz : s[0] = 48) : (s.toList == [48]) = decide (s.size = 1) := by
  have e := drop_cons s 0 h0
  rw [List.drop_zero, hz] at e
  have hl := len_list s
  rw [emp_list, e, Bool.eq_iff_iff, beq_iff_eq, decide_eq_true_iff]
  constructor
  · intro h
    rw [e, h] at hl
    simpa using hl.symm
  · intro h
    have : (s.data.toList.drop (0 + 1)).length = 0 := by rw [List.length_drop, hl]; omega
    rw [List.eq_nil_of_length_eq_zero this]
theorem jOk_dig {n c : Int} (h : ¬ (48 ≤ c ∧ c ≤ 57)) : jOk n c = false := by unfold jOk digB; rw [decide_eq_false h]; rfl
theorem jOk_ten {n c : Int} (h0 : 48 ≤ c) (h : 340282366920938463463374607431768211456 ≤ n * 10) : jOk n c = false := by
  have : ovW (n * 10 + (c - 48)) = true := by unfold ovW; simp; omega
  unfold jOk; rw [this]; simp
theorem pl_no {s : Int} (h : ovW s = true) : plH s = 0 ∧ plL s = 0 := by simp [plH, plL, h]
theorem pl_yes {s : Int} (h : ovW s = false) : plH s = hiW s ∧ plL s = lo64 s := by simp [plH, plL, h]
theorem zero_words : hiW 0 = 0 ∧ lo64 0 = 0 := ⟨rfl, rfl⟩

/-- What the inner loop of the document's Parse keeps: m is (j + 1) times n, or ten times n has more than 128 bits. -/
def Ten (n m : Int) (j : Nat) (b : Bool) : Prop := (b = true ∧ m = n * (j + 1) ∧ m < 340282366920938463463374607431768211456) ∨ (b = false ∧ 340282366920938463463374607431768211456 ≤ n * 10 ∧ m = 0)
theorem Ten.start {n : Int} (h : n < 340282366920938463463374607431768211456) : Ten n n 0 true := .inl ⟨rfl, by simp, h⟩
theorem Ten.step {n m : Int} {j : Nat} (h : Ten n m j true) (ho : ovW (m + n) = false) : Ten n (m + n) (j + 1) true := by
  rcases h with ⟨_, h, _⟩ | ⟨h, _⟩
  · refine .inl ⟨rfl, ?_, ?_⟩
    · rw [h, show ((j + 1 : Nat) : Int) + 1 = ((j : Int) + 1) + 1 by omega, Int.mul_add n ((j : Int) + 1) 1, Int.mul_one]
    · unfold ovW at ho; simp at ho; exact ho
  · cases h
theorem Ten.over {n m : Int} {j : Nat} (h : Ten n m j true) (hj : j < 9) (hn : 0 ≤ n) (ho : ovW (m + n) = true) : Ten n 0 (j + 1) false := by
  rcases h with ⟨_, h, _⟩ | ⟨h, _⟩
  · refine .inr ⟨rfl, ?_, rfl⟩
    have e : m + n = n * ((j : Int) + 1 + 1) := by rw [h, Int.mul_add n ((j : Int) + 1) 1, Int.mul_one]
    have k : n * ((j : Int) + 1 + 1) ≤ n * 10 := Int.mul_le_mul_of_nonneg_left (by omega) hn
    unfold ovW at ho; simp at ho; omega
  · cases h
theorem Ten.nine {n m : Int} (h : Ten n m 9 true) : m = n * 10 ∧ m < 340282366920938463463374607431768211456 := by
  rcases h with ⟨_, h, h2⟩ | ⟨h, _⟩
  · exact ⟨by rw [h]; rfl, h2⟩
  · cases h
theorem Ten.lost {n m : Int} {j : Nat} (h : Ten n m j false) : 340282366920938463463374607431768211456 ≤ n * 10 := by
  rcases h with ⟨h, _⟩ | ⟨_, h, _⟩
  · cases h
  · exact h

set_option maxHeartbeats 4000000 in
theorem rparse_good (s : ByteArray) (w : World) (hs : s.size ≤ 9223372036854775807) (em : s.toList.isEmpty = false) (c2 : s.size ≤ 39) (c0 : 0 < s.size) (hz0 : Hid (1 < s.size → ¬ s[0] = 48)) (P : Hid (parseO s.data.toList = pgo 0 s.data.toList)) :
    Calls Try.prog 33 #[.string s] w fun e w' => e = .returned (.tuple #[wide (pH s.data.toList) (pL s.data.toList), .int .i64 (pE s.data.toList)]) ∧ Below w.heap.size w w' := by
  go_enter Try.func33, Try.ntmps33
  go_upto_region 1 with fail
  go_cut [24] (fun c wx => c = .bool false ∧ wx = w.alloc (.cells #[.int .u64 0, .int .u64 0] 35))
  case first =>
    by_cases c5 : s[0] = 48
    · have hz : ((s[0].toNat : Int) == 48) = true := by rw [c5]; rfl
      have h48 : (s.toList == [48]) = true := by
        rw [one48 s c0 c5]
        by_cases h : 1 < s.size
        · exact absurd c5 (hz0.out h)
        · simp; omega
      have C5 : Hid _ := c5
      clear c5
      go_wp2
      go_meet
      exact ⟨by simp; omega, rfl⟩
    · have hz : ((s[0].toNat : Int) == 48) = false := by
        simp only [beq_eq_false_iff_ne]
        intro h
        exact c5 (UInt8.toNat_inj.1 (by have : (48 : UInt8).toNat = 48 := rfl; omega))
      clear c5
      go_wp2
      go_meet
      exact ⟨by simp; omega, rfl⟩
  case rest =>
    obtain ⟨rfl, rfl⟩ := hcut
    go_wp2
    go_loopg [5] s.size (fun g i wr => ∃ (k : Nat) (n : Int), k + g = s.size ∧ i = .int .i64 k ∧ 0 ≤ n ∧ n < 340282366920938463463374607431768211456 ∧ Hid (pgo 0 s.data.toList = pgo n (s.data.toList.drop k)) ∧ Two wr (w.heap.size + 1) (.int .u64 (hiW n)) (.int .u64 (lo64 n)) ∧ Two wr w.heap.size (.int .u64 0) (.int .u64 0) ∧ Below w.heap.size w wr)
    case atStart => exact ⟨0, 0, by omega, rfl, by omega, by omega, rfl, (Two.new _ _ _ _).at (by simp), (Two.new _ _ _ _).alloc _, by go_grown⟩
    case round =>
      rename World => w0
      rename Nat => gko
      obtain ⟨k, n, hkg, rfl, hn0, hn1, HP, T1, T0, hB⟩ := hrel
      obtain ⟨q0, q1, g0, g1, z⟩ := id T1
      obtain ⟨q2, q3, g2, g3, z2⟩ := id T0
      have HK : Hid (k + gko = s.size) := hkg
      have hk : k ≤ s.size := by omega
      clear hkg
      by_cases hlt : k < s.size
      · have V : Hid (val (hiW n) (lo64 n) = n) := val_self hn0 hn1
        have HX : Hid (s.data.toList.drop k = s[k] :: s.data.toList.drop (k + 1)) := drop_cons s k hlt
        have hxb : s[k].toNat < 256 := s[k].toNat_lt
        have hI : (k : Int) < (s.size : Int) := by omega
        obtain ⟨n11, n12⟩ := hiW_bd n
        obtain ⟨n21, n22⟩ := lo64_bd n
        by_cases d1 : (s[k].toNat : Int) < 48
        · have E : Hid _ := p_none (step_no P.out HP.out HX.out (jOk_dig (by omega)))
          go_wp2
          exact bodyPost_ret (v := .tuple #[wide 0 0, .int .i64 20]) (by simp [results, Try.results33, go_sem, q2, q3]) rfl ⟨ret_widei E.out.1.symm E.out.2.1.symm E.out.2.2.symm, by go_grown⟩
        by_cases d2 : 57 < (s[k].toNat : Int)
        · have E : Hid _ := p_none (step_no P.out HP.out HX.out (jOk_dig (by omega)))
          go_wp2
          exact bodyPost_ret (v := .tuple #[wide 0 0, .int .i64 20]) (by simp [results, Try.results33, go_sem, q2, q3]) rfl ⟨ret_widei E.out.1.symm E.out.2.1.symm E.out.2.2.symm, by go_grown⟩
        have hbr := hB.size
        go_wp2
        go_loopg [7, 8] 9 (fun g o i wx => ∃ (j : Nat) (m : Int) (b : Bool), j + g = 9 ∧ i = .int .i64 j ∧ o = .bool b ∧ 0 ≤ m ∧ Hid (Ten n m j b) ∧ Two wx w0.heap.size (.int .u64 (hiW m)) (.int .u64 (lo64 m)) ∧ Two wx (w.heap.size + 1) (.int .u64 (hiW n)) (.int .u64 (lo64 n)) ∧ Two wx w.heap.size (.int .u64 0) (.int .u64 0) ∧ Below w.heap.size w wx)
        case atStart => exact ⟨0, n, true, rfl, rfl, rfl, hn0, Ten.start hn1, Two.new _ _ _ _, T1.alloc _, T0.alloc _, hB.alloc hbr _⟩
        case round =>
          obtain ⟨j, m, b, hjg, rfl, rfl, hm0, HT, U6, U1, U0, hBx⟩ := hrel
          obtain ⟨p4, p5, r4, r5, y4⟩ := id U6
          obtain ⟨p0, p1, r0, r1, y⟩ := id U1
          obtain ⟨p2, p3, r2, r3, y3⟩ := id U0
          have HJ : Hid (j + gk = 9) := hjg
          have hj9 : j ≤ 9 := by omega
          have hbx := hBx.size
          clear hjg q0 q1 q2 q3 g0 g1 g2 g3 T1 T0
          obtain ⟨m11, m12⟩ := hiW_bd m
          obtain ⟨m21, m22⟩ := lo64_bd m
          by_cases hb : b = true
          · subst hb
            by_cases hj : j < 9
            · have HM : Hid (m < 340282366920938463463374607431768211456) := by
                rcases HT.out with ⟨_, _, h⟩ | ⟨h, _⟩
                · exact h
                · cases h
              have VM : Hid (val (hiW m) (lo64 m) = m) := val_self hm0 HM.out
              go_wp2_with fail
              refine (rplus_any _ _ _ _ _ (by assumption) (by assumption) (by assumption) (by assumption) (by assumption) (by assumption) (by assumption) (by assumption)).mono ?_
              rintro e w1 ⟨rfl, hb1⟩
              rw [VM.out, V.out]
              have X6 := U6.below hb1
              have X1 := U1.below hb1
              have X0 := U0.below hb1
              obtain ⟨x4, x5, t4, t5, v4⟩ := id X6
              have hB1 : Below w.heap.size w w1 := hBx.trans (hb1.mono hbx)
              clear hb1
              by_cases ho : ovW (m + n) = true
              · rw [(pl_no ho).1, (pl_no ho).2, ho]
                go_wp2
                go_roundg (gk - 1)
                case measure => have := HJ.out; omega
                case rel =>
                  refine ⟨j + 1, 0, false, by have := HJ.out; omega, by go_num, rfl, by omega, Ten.over HT.out hj hn0 ho, (Two.set X6 _ _).vals rfl rfl, ?_, ?_, ?_⟩
                  · exact Two.far (Two.far X1 _ _ _ (by omega)) _ _ _ (by omega)
                  · exact Two.far (Two.far X0 _ _ _ (by omega)) _ _ _ (by omega)
                  · exact (hB1.setCell hbr _).setCell hbr _
              · have ho : ovW (m + n) = false := by simpa using ho
                rw [(pl_yes ho).1, (pl_yes ho).2, ho]
                go_wp2
                go_roundg (gk - 1)
                case measure => have := HJ.out; omega
                case rel =>
                  refine ⟨j + 1, m + n, true, by have := HJ.out; omega, by go_num, rfl, by omega, Ten.step HT.out ho, Two.set X6 _ _, ?_, ?_, ?_⟩
                  · exact Two.far (Two.far X1 _ _ _ (by omega)) _ _ _ (by omega)
                  · exact Two.far (Two.far X0 _ _ _ (by omega)) _ _ _ (by omega)
                  · exact (hB1.setCell hbr _).setCell hbr _
            · have hj' : j = 9 := by omega
              subst hj'
              have TN : Hid _ := Ten.nine HT.out
              have VM : Hid (val (hiW m) (lo64 m) = m) := val_self hm0 TN.out.2
              have D : Hid (val 0 ((s[k].toNat : Int) - 48) = (s[k].toNat : Int) - 48) := by show val 0 _ = _; unfold val; omega
              have WR : Hid (IntKind.u64.wrap (IntKind.u8.wrap ((s[k].toNat : Int) - 48)) = (s[k].toNat : Int) - 48) := by show IntKind.u64.wrap (IntKind.u8.wrap ((s[k].toNat : Int) - 48)) = _; simp only [IntKind.wrap_u64, IntKind.wrap_u8]; omega
              go_upto_region 16 with fail
              go_cut [7] (fun o wx => o = .bool (!ovW (n * 10 + ((s[k].toNat : Int) - 48))) ∧ Two wx w0.heap.size (.int .u64 (plH (n * 10 + ((s[k].toNat : Int) - 48)))) (.int .u64 (plL (n * 10 + ((s[k].toNat : Int) - 48)))) ∧ Two wx (w.heap.size + 1) (.int .u64 (hiW n)) (.int .u64 (lo64 n)) ∧ Two wx w.heap.size (.int .u64 0) (.int .u64 0) ∧ Below w.heap.size w wx)
              case first =>
                go_region_with (go_at_call 25; rw [WR.out]; refine (rplus_any _ _ _ _ _ (by assumption) (by assumption) (by assumption) (by assumption) (by omega) (by omega) (by omega) (by omega)).mono ?_; rintro e w1 ⟨rfl, hb1⟩; rw [VM.out, D.out, TN.out.1]; have X6 := Two.below (W := wr.drew) U6 hb1; have X1 := Two.below (W := wr.drew) U1 hb1; have X0 := Two.below (W := wr.drew) U0 hb1; obtain ⟨x4, x5, t4, t5, v4⟩ := id X6; have hB1 : Below w.heap.size w w1 := (Below.drew hBx).trans (hb1.mono hbx))
                all_goals go_wp2_with fail
                all_goals go_meet
                all_goals exact ⟨rfl, Two.set X6 _ _, Two.far (Two.far X1 _ _ _ (by omega)) _ _ _ (by omega), Two.far (Two.far X0 _ _ _ (by omega)) _ _ _ (by omega), (hB1.setCell hbr _).setCell hbr _⟩
              case rest =>
                obtain ⟨rfl, X6, X1, X0, hB1⟩ := hcut
                obtain ⟨x4, x5, t4, t5, v4⟩ := id X6
                obtain ⟨x0, x1, t0, t1, v1⟩ := id X1
                obtain ⟨x2, x3, t2, t3, v3⟩ := id X0
                clear p0 p1 p2 p3 p4 p5 r0 r1 r2 r3 r4 r5
                have dg : digB (s[k].toNat : Int) = true := by unfold digB; simp; omega
                by_cases ok : ovW (n * 10 + ((s[k].toNat : Int) - 48)) = true
                · have no : jOk n (s[k].toNat : Int) = false := by unfold jOk; rw [ok]; simp
                  have E : Hid _ := p_none (step_no P.out HP.out HX.out no)
                  go_wp2
                  exact bodyPost_ret (v := .tuple #[wide 0 0, .int .i64 20]) (by simp [results, Try.results33, go_sem, x2, x3]) rfl ⟨ret_widei E.out.1.symm E.out.2.1.symm E.out.2.2.symm, by go_grown⟩
                · have ok : ovW (n * 10 + ((s[k].toNat : Int) - 48)) = false := by simpa using ok
                  have yes : jOk n (s[k].toNat : Int) = true := by unfold jOk; rw [ok, dg]; rfl
                  have PY : Hid _ := pl_yes ok
                  have YES : Hid _ := yes
                  clear yes dg
                  go_wp2
                  go_roundg (gko - 1)
                  case measure => have := HK.out; omega
                  case rel =>
                    have jb := jOk_in hn0 YES.out
                    refine ⟨k + 1, n * 10 + ((s[k].toNat : Int) - 48), by have := HK.out; omega, by go_num, jb.1, jb.2, step_ok HP.out HX.out YES.out, ?_, ?_, ?_⟩
                    · rw [← PY.out.1, ← PY.out.2]
                      exact Two.set X1 _ _
                    · exact Two.far (Two.far X0 _ _ _ (by omega)) _ _ _ (by omega)
                    · exact (hB1.setCell (by simp) _).setCell (by simp) _
          · have hb' : b = false := by simpa using hb
            subst hb'
            have E : Hid _ := p_none (step_no P.out HP.out HX.out (jOk_ten d1 (Ten.lost HT.out)))
            by_cases hj : j < 9
            · go_wp2
              exact bodyPost_ret (v := .tuple #[wide 0 0, .int .i64 20]) (by simp [results, Try.results33, go_sem, p2, p3]) rfl ⟨ret_widei E.out.1.symm E.out.2.1.symm E.out.2.2.symm, by go_grown⟩
            · go_wp2
              exact bodyPost_ret (v := .tuple #[wide 0 0, .int .i64 20]) (by simp [results, Try.results33, go_sem, p2, p3]) rfl ⟨ret_widei E.out.1.symm E.out.2.1.symm E.out.2.2.symm, by go_grown⟩
      · have E : Hid _ := p_some (step_end P.out HP.out (by rw [len_list]; omega))
        go_wp2
        exact bodyPost_ret (v := .tuple #[wide (hiW n) (lo64 n), .int .i64 0]) (by simp [results, Try.results33, go_sem, q2, q3]) rfl ⟨ret_widei E.out.1.symm E.out.2.1.symm E.out.2.2.symm, by go_grown⟩

end Go.Proofs.Ytkhinpapiommiaa
