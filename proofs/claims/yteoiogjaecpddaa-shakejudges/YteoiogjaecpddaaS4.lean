/-
  Package shake: the document's Fit.
-/
import Derived.Test.YteoiogjaecpddaaS3
import Derived.BigQuiet
namespace Go.Proofs.Yteoiogjaecpddaa
open Go.ChangeShapes Go.WideShapes Go.ChangeAt Go.RowKit Go.Maps Go.Shelf
set_option linter.unusedVariables false
set_option linter.unusedSimpArgs false

theorem ok_iff {la id : Int} {x : SN} : (ltI la x.peer && !(eqI x.peer id) && entB x) = true ↔ la < x.peer ∧ x.peer ≠ id ∧ (0 ≤ x.peer ∧ x.peer < 16) ∧ (0 ≤ x.boot ∧ x.boot ≤ 1099511627776) ∧ (0 ≤ x.life ∧ x.life ≤ 1099511627776) ∧ (0 ≤ x.mine ∧ x.mine ≤ 1099511627776) ∧ (0 < x.boot ∨ (x.life = 0 ∧ 0 < x.mine)) := by
  simp [ltI, eqI, entB, nodeB, inB, and_assoc]
theorem ok_no {la id : Int} {x : SN} (h : ¬ (la < x.peer ∧ x.peer ≠ id ∧ (0 ≤ x.peer ∧ x.peer < 16) ∧ (0 ≤ x.boot ∧ x.boot ≤ 1099511627776) ∧ (0 ≤ x.life ∧ x.life ≤ 1099511627776) ∧ (0 ≤ x.mine ∧ x.mine ≤ 1099511627776) ∧ (0 < x.boot ∨ (x.life = 0 ∧ 0 < x.mine)))) : (ltI la x.peer && !(eqI x.peer id) && entB x) = false :=
  Bool.eq_false_iff.2 fun k => h (ok_iff.1 k)
set_option maxRecDepth 100000 in
set_option maxHeartbeats 16000000 in
theorem dfit_any_ (idn : Int) (a : Option Addr) (n cap : Nat) (l : List SN) (w : World) (hr : RdS w a n cap l) :
    Calls Try.prog 10 #[.int .i64 idn, .slice a n cap] w fun e w' => e = .returned (.bool (fitS idn l)) ∧ Below w.heap.size w w' := by
  have HN : Hid (n ≤ 140737488355328) := hr.small
  have HL : Hid (l.length = n) := hr.size
  go_enter Try.func10, Try.ntmps10
  go_wp2
  go_loopg [5] n (fun gk v5 wr => ∃ i : Nat, v5 = .int .i64 (i : Int) ∧ i + gk = n ∧ Below w.heap.size w wr ∧ ∀ j, j < i → okS idn l j = true)
  case atStart => exact ⟨0, by first | rfl | go_num, by omega, Below.refl _ _, fun j hj => by omega⟩
  case round =>
    obtain ⟨i, rfl, hgk, B, hok⟩ := hrel
    have HOK : Hid (∀ j, j < i → okS idn l j = true) := hok
    clear hok
    by_cases hi : i < n
    case pos =>
      have HI : Hid (i < l.length) := by show _ < _; rw [HL.out]; exact hi
      have hiI : (i : Int) < (n : Int) := by omega
      have hwr : IntKind.i64.wrap ((i : Int) + 1) = (i : Int) + 1 := by rw [IntKind.wrap_i64]; have := HN.out; omega
      have HP : Hid (∀ k, i = k + 1 → IntKind.i64.wrap ((i : Int) - 1) = (k : Int) ∧ (k : Int) < (n : Int)) := by
        rintro k rfl
        exact ⟨by rw [IntKind.wrap_i64]; have := HN.out; omega, by omega⟩
      have hrB := hr.below B
      obtain ⟨b, off, rfl, hb, hd, hra⟩ := hrB.at i hi
      obtain ⟨⟨peer, boot, life, mine⟩, hri⟩ : ∃ r, l.getD i SN.z = r := ⟨_, rfl⟩
      rw [hri] at hra hd
      have HB : Hid (okS idn l i = (ltI (lastS l i) peer && !(eqI peer idn) && entB ⟨peer, boot, life, mine⟩)) := by show _ = _; unfold okS; rw [hri]
      obtain ⟨la, hla⟩ : ∃ la, lastS l i = la := ⟨_, rfl⟩
      rw [hla] at HB
      have NO : Hid (¬ (la < peer ∧ peer ≠ idn ∧ (0 ≤ peer ∧ peer < 16) ∧ (0 ≤ boot ∧ boot ≤ 1099511627776) ∧ (0 ≤ life ∧ life ≤ 1099511627776) ∧ (0 ≤ mine ∧ mine ≤ 1099511627776) ∧ (0 < boot ∨ (life = 0 ∧ 0 < mine))) → fitS idn l = false) := fun h => fitS_no HI.out (by rw [HB.out]; exact ok_no (x := ⟨peer, boot, life, mine⟩) h)
      have YES : Hid ((la < peer ∧ peer ≠ idn ∧ (0 ≤ peer ∧ peer < 16) ∧ (0 ≤ boot ∧ boot ≤ 1099511627776) ∧ (0 ≤ life ∧ life ≤ 1099511627776) ∧ (0 ≤ mine ∧ mine ≤ 1099511627776) ∧ (0 < boot ∨ (life = 0 ∧ 0 < mine))) → ∀ j, j < i + 1 → okS idn l j = true) := fun h j hj => by
        by_cases e : j = i
        · rw [e, HB.out]; exact (ok_iff (x := ⟨peer, boot, life, mine⟩)).2 h
        · exact HOK.out j (by omega)
      have LA : Hid ((i = 0 → la = -1) ∧ ∀ k, i = k + 1 → la = (l.getD k SN.z).peer ∧ wr.cell? ⟨b, off + k * 4, none⟩ = some (.int .i64 (l.getD k SN.z).peer)) := by
        refine ⟨fun e => by rw [← hla, e]; rfl, ?_⟩
        rintro k rfl
        refine ⟨by rw [← hla]; rfl, ?_⟩
        obtain ⟨b', off', e', _, _, hra'⟩ := hrB.at k (by omega)
        cases e'
        have := hra' 0 _ rfl
        rwa [Nat.add_zero] at this
      obtain ⟨W1, hW1⟩ : ∃ W1, wr.alloc (.cells #[.int .i64 peer, .int .i64 boot, .int .i64 life, .int .i64 mine] 33) = W1 := ⟨_, rfl⟩
      have bA : Below wr.heap.size wr W1 := by rw [← hW1]; exact (Below.refl _ _).alloc (Nat.le_refl _) _
      have T : W1.heap[wr.heap.size]? = some (.cells (SN.cells ⟨peer, boot, life, mine⟩).toArray 33 (0, 0)) := by rw [← hW1]; exact heap_new rfl
      have HW : Hid (wr.alloc (.cells #[.int .i64 peer, .int .i64 boot, .int .i64 life, .int .i64 mine] 33) = W1) := hW1
      have BW : Hid (Below w.heap.size w W1) := B.trans (bA.mono B.size)
      have LB : Hid (∀ k, i = k + 1 → W1.cell? ⟨b, off + k * 4, none⟩ = some (.int .i64 (l.getD k SN.z).peer)) := fun k e => (bA.cell (p := ⟨b, off + k * 4, none⟩) hb).trans (LA.out.2 k e).2
      clear hW1 hri hd hla hrB hr
      go_wp2_with (first
        | ((with_reducible show wpList _ _ _ (Oper.mk _ (Op.load 33 (Operand.tmp 15)) _ _ _ _ :: _) _ _); refine wpList_load33x rfl _ rfl b (off + i * 4) peer boot life mine rfl hra ?_)
        | fail)
      rw [HW.out]
      obtain ⟨q, hq⟩ : ∃ q : Nat, wr.heap.size = q := ⟨_, rfl⟩
      rw [hq] at T
      simp only [hq]
      have x0 : W1.cell? ⟨q, 0, none⟩ = some (.int .i64 peer) := row_cell T 0 _ rfl
      have x1 : W1.cell? ⟨q, 1, none⟩ = some (.int .i64 boot) := row_cell T 1 _ rfl
      have x2 : W1.cell? ⟨q, 2, none⟩ = some (.int .i64 life) := row_cell T 2 _ rfl
      have x3 : W1.cell? ⟨q, 3, none⟩ = some (.int .i64 mine) := row_cell T 3 _ rfl
      have HQI : Hid (i < n) := hi
      clear hq T HW hra hb bA hi B
      simp only [List.append]
      refine wp_region_quiet_lit (by kernel_rfl) (by kernel_rfl) ?_
      cases hnd : nodeB peer with
      | false =>
        as_aux_lemma =>
          have hnp : ¬ (0 ≤ peer ∧ peer < 16) := of_decide_eq_false hnd
          have HF : Hid (fitS idn l = false) := NO.out (by omega)
          clear NO YES LA LB HP HB HOK
          repeat (go_big_quiet_step ((go_at_call 40; exact Calls.quiet_of_same (snode_any _ _))))
          refine wpQuiet_nil ?_
          intro _ hw'
          obtain ⟨nq, hw''⟩ := hw'
          subst hw''
          go_wp2
          go_ret
          exact ⟨ret_bool HF.out.symm, Below.drewn BW.out _⟩
      | true =>
        have HND : Hid (0 ≤ peer ∧ peer < 16) := by show _ ∧ _; exact of_decide_eq_true hnd
        iterate 8 (go_big_quiet_step ((go_at_call 40; exact Calls.quiet_of_same (snode_any _ _))))
        by_cases hid : peer = idn
        case pos =>
          have hidb : (peer == idn) = true := by simpa using hid
          as_aux_lemma =>
            have HF : Hid (fitS idn l = false) := NO.out (by omega)
            clear hid
            clear NO YES LA LB HP HB HOK
            repeat (go_big_quiet_step ((go_at_call 40; exact Calls.quiet_of_same (snode_any _ _))))
            refine wpQuiet_nil ?_
            intro _ hw'
            obtain ⟨nq, hw''⟩ := hw'
            subst hw''
            go_wp2
            go_ret
            exact ⟨ret_bool HF.out.symm, Below.drewn BW.out _⟩
        case neg =>
          have hidb : (peer == idn) = false := by simpa using hid
          have HPI : Hid (peer ≠ idn) := hid
          clear hid
          iterate 4 (go_big_quiet_step ((go_at_call 40; exact Calls.quiet_of_same (snode_any _ _))))
          by_cases hi0 : i = 0
          case pos =>
            have hi0b : decide (0 < i) = false := decide_eq_false (by omega)
            have HLT : Hid (la < peer) := by show _ < _; have := LA.out.1 hi0; have := HND.out; omega
            clear hi0
            iterate 16 (go_big_quiet_step ((go_at_call 40; exact Calls.quiet_of_same (snode_any _ _))))
            by_cases h1 : boot < 0
            case pos =>
              as_aux_lemma =>
                have HF : Hid (fitS idn l = false) := NO.out (by omega)
                clear NO YES LA LB HP HB HOK
                repeat (go_big_quiet_step ((go_at_call 40; exact Calls.quiet_of_same (snode_any _ _))))
                refine wpQuiet_nil ?_
                intro _ hw'
                obtain ⟨nq, hw''⟩ := hw'
                subst hw''
                go_wp2
                go_ret
                exact ⟨ret_bool HF.out.symm, Below.drewn BW.out _⟩
            case neg =>
              iterate 5 (go_big_quiet_step ((go_at_call 40; exact Calls.quiet_of_same (snode_any _ _))))
              by_cases h2 : 1099511627776 < boot
              case pos =>
                as_aux_lemma =>
                  have HF : Hid (fitS idn l = false) := NO.out (by omega)
                  clear NO YES LA LB HP HB HOK
                  repeat (go_big_quiet_step ((go_at_call 40; exact Calls.quiet_of_same (snode_any _ _))))
                  refine wpQuiet_nil ?_
                  intro _ hw'
                  obtain ⟨nq, hw''⟩ := hw'
                  subst hw''
                  go_wp2
                  go_ret
                  exact ⟨ret_bool HF.out.symm, Below.drewn BW.out _⟩
              case neg =>
                iterate 5 (go_big_quiet_step ((go_at_call 40; exact Calls.quiet_of_same (snode_any _ _))))
                by_cases h3 : life < 0
                case pos =>
                  as_aux_lemma =>
                    have HF : Hid (fitS idn l = false) := NO.out (by omega)
                    clear NO YES LA LB HP HB HOK
                    repeat (go_big_quiet_step ((go_at_call 40; exact Calls.quiet_of_same (snode_any _ _))))
                    refine wpQuiet_nil ?_
                    intro _ hw'
                    obtain ⟨nq, hw''⟩ := hw'
                    subst hw''
                    go_wp2
                    go_ret
                    exact ⟨ret_bool HF.out.symm, Below.drewn BW.out _⟩
                case neg =>
                  iterate 5 (go_big_quiet_step ((go_at_call 40; exact Calls.quiet_of_same (snode_any _ _))))
                  by_cases h4 : 1099511627776 < life
                  case pos =>
                    as_aux_lemma =>
                      have HF : Hid (fitS idn l = false) := NO.out (by omega)
                      clear NO YES LA LB HP HB HOK
                      repeat (go_big_quiet_step ((go_at_call 40; exact Calls.quiet_of_same (snode_any _ _))))
                      refine wpQuiet_nil ?_
                      intro _ hw'
                      obtain ⟨nq, hw''⟩ := hw'
                      subst hw''
                      go_wp2
                      go_ret
                      exact ⟨ret_bool HF.out.symm, Below.drewn BW.out _⟩
                  case neg =>
                    iterate 5 (go_big_quiet_step ((go_at_call 40; exact Calls.quiet_of_same (snode_any _ _))))
                    by_cases h5 : mine < 0
                    case pos =>
                      as_aux_lemma =>
                        have HF : Hid (fitS idn l = false) := NO.out (by omega)
                        clear NO YES LA LB HP HB HOK
                        repeat (go_big_quiet_step ((go_at_call 40; exact Calls.quiet_of_same (snode_any _ _))))
                        refine wpQuiet_nil ?_
                        intro _ hw'
                        obtain ⟨nq, hw''⟩ := hw'
                        subst hw''
                        go_wp2
                        go_ret
                        exact ⟨ret_bool HF.out.symm, Below.drewn BW.out _⟩
                    case neg =>
                      iterate 5 (go_big_quiet_step ((go_at_call 40; exact Calls.quiet_of_same (snode_any _ _))))
                      by_cases h6 : 1099511627776 < mine
                      case pos =>
                        as_aux_lemma =>
                          have HF : Hid (fitS idn l = false) := NO.out (by omega)
                          clear NO YES LA LB HP HB HOK
                          repeat (go_big_quiet_step ((go_at_call 40; exact Calls.quiet_of_same (snode_any _ _))))
                          refine wpQuiet_nil ?_
                          intro _ hw'
                          obtain ⟨nq, hw''⟩ := hw'
                          subst hw''
                          go_wp2
                          go_ret
                          exact ⟨ret_bool HF.out.symm, Below.drewn BW.out _⟩
                      case neg =>
                        iterate 5 (go_big_quiet_step ((go_at_call 40; exact Calls.quiet_of_same (snode_any _ _))))
                        by_cases hb0 : boot = 0
                        case pos =>
                          have hb0b : (boot == 0) = true := by simpa using hb0
                          by_cases hl0 : life = 0
                          case neg =>
                            have hl0b : (life != 0) = true := by simpa using hl0
                            as_aux_lemma =>
                              have HF : Hid (fitS idn l = false) := NO.out (by omega)
                              clear hb0 hl0
                              clear NO YES LA LB HP HB HOK
                              repeat (go_big_quiet_step ((go_at_call 40; exact Calls.quiet_of_same (snode_any _ _))))
                              refine wpQuiet_nil ?_
                              intro _ hw'
                              obtain ⟨nq, hw''⟩ := hw'
                              subst hw''
                              go_wp2
                              go_ret
                              exact ⟨ret_bool HF.out.symm, Below.drewn BW.out _⟩
                          case pos =>
                            have hl0b : (life != 0) = false := by simpa using hl0
                            by_cases hm0 : mine = 0
                            case pos =>
                              have hm0b : (mine == 0) = true := by simpa using hm0
                              as_aux_lemma =>
                                have HF : Hid (fitS idn l = false) := NO.out (by omega)
                                clear hb0 hl0 hm0
                                clear NO YES LA LB HP HB HOK
                                repeat (go_big_quiet_step ((go_at_call 40; exact Calls.quiet_of_same (snode_any _ _))))
                                refine wpQuiet_nil ?_
                                intro _ hw'
                                obtain ⟨nq, hw''⟩ := hw'
                                subst hw''
                                go_wp2
                                go_ret
                                exact ⟨ret_bool HF.out.symm, Below.drewn BW.out _⟩
                            case neg =>
                              have hm0b : (mine == 0) = false := by simpa using hm0
                              as_aux_lemma =>
                                have HT : Hid (∀ j, j < i + 1 → okS idn l j = true) := YES.out (by have := HPI.out; have := HND.out; have := HLT.out; omega)
                                clear hb0 hl0 hm0
                                clear NO YES LA LB HP HB HOK
                                repeat (go_big_quiet_step ((go_at_call 40; exact Calls.quiet_of_same (snode_any _ _))))
                                refine wpQuiet_nil ?_
                                intro _ hw'
                                obtain ⟨nq, hw''⟩ := hw'
                                subst hw''
                                go_wp2
                                go_roundg (gk - 1)
                                case measure => have := HQI.out; omega
                                case rel => exact ⟨i + 1, by first | rfl | go_num, by have := HQI.out; omega, Below.drewn BW.out _, HT.out⟩
                        case neg =>
                          have hb0b : (boot == 0) = false := by simpa using hb0
                          as_aux_lemma =>
                            have HT : Hid (∀ j, j < i + 1 → okS idn l j = true) := YES.out (by have := HPI.out; have := HND.out; have := HLT.out; omega)
                            clear hb0
                            clear NO YES LA LB HP HB HOK
                            repeat (go_big_quiet_step ((go_at_call 40; exact Calls.quiet_of_same (snode_any _ _))))
                            refine wpQuiet_nil ?_
                            intro _ hw'
                            obtain ⟨nq, hw''⟩ := hw'
                            subst hw''
                            go_wp2
                            go_roundg (gk - 1)
                            case measure => have := HQI.out; omega
                            case rel => exact ⟨i + 1, by first | rfl | go_num, by have := HQI.out; omega, Below.drewn BW.out _, HT.out⟩
          case neg =>
            have hi0b : decide (0 < i) = true := decide_eq_true (by omega)
            obtain ⟨k, hk⟩ : ∃ k, i = k + 1 := ⟨i - 1, by omega⟩
            have p0 := LB.out k hk
            have e1 := (LA.out.2 k hk).1
            obtain ⟨hw1, hkI⟩ := HP.out k hk
            obtain ⟨pp, hpp⟩ : ∃ pp, (l.getD k SN.z).peer = pp := ⟨_, rfl⟩
            rw [hpp] at p0 e1
            have HPP : Hid (la = pp) := e1
            clear hi0 hpp e1 hk
            by_cases hge : peer ≤ pp
            case pos =>
              as_aux_lemma =>
                have HF : Hid (fitS idn l = false) := NO.out (by have := HPP.out; omega)
                clear NO YES LA LB HP HB HOK
                repeat (go_big_quiet_step ((go_at_call 40; exact Calls.quiet_of_same (snode_any _ _))))
                refine wpQuiet_nil ?_
                intro _ hw'
                obtain ⟨nq, hw''⟩ := hw'
                subst hw''
                go_wp2
                go_ret
                exact ⟨ret_bool HF.out.symm, Below.drewn BW.out _⟩
            case neg =>
              have HLT : Hid (la < peer) := by show _ < _; have := HPP.out; omega
              iterate 16 (go_big_quiet_step ((go_at_call 40; exact Calls.quiet_of_same (snode_any _ _))))
              by_cases h1 : boot < 0
              case pos =>
                as_aux_lemma =>
                  have HF : Hid (fitS idn l = false) := NO.out (by omega)
                  clear NO YES LA LB HP HB HOK
                  repeat (go_big_quiet_step ((go_at_call 40; exact Calls.quiet_of_same (snode_any _ _))))
                  refine wpQuiet_nil ?_
                  intro _ hw'
                  obtain ⟨nq, hw''⟩ := hw'
                  subst hw''
                  go_wp2
                  go_ret
                  exact ⟨ret_bool HF.out.symm, Below.drewn BW.out _⟩
              case neg =>
                iterate 5 (go_big_quiet_step ((go_at_call 40; exact Calls.quiet_of_same (snode_any _ _))))
                by_cases h2 : 1099511627776 < boot
                case pos =>
                  as_aux_lemma =>
                    have HF : Hid (fitS idn l = false) := NO.out (by omega)
                    clear NO YES LA LB HP HB HOK
                    repeat (go_big_quiet_step ((go_at_call 40; exact Calls.quiet_of_same (snode_any _ _))))
                    refine wpQuiet_nil ?_
                    intro _ hw'
                    obtain ⟨nq, hw''⟩ := hw'
                    subst hw''
                    go_wp2
                    go_ret
                    exact ⟨ret_bool HF.out.symm, Below.drewn BW.out _⟩
                case neg =>
                  iterate 5 (go_big_quiet_step ((go_at_call 40; exact Calls.quiet_of_same (snode_any _ _))))
                  by_cases h3 : life < 0
                  case pos =>
                    as_aux_lemma =>
                      have HF : Hid (fitS idn l = false) := NO.out (by omega)
                      clear NO YES LA LB HP HB HOK
                      repeat (go_big_quiet_step ((go_at_call 40; exact Calls.quiet_of_same (snode_any _ _))))
                      refine wpQuiet_nil ?_
                      intro _ hw'
                      obtain ⟨nq, hw''⟩ := hw'
                      subst hw''
                      go_wp2
                      go_ret
                      exact ⟨ret_bool HF.out.symm, Below.drewn BW.out _⟩
                  case neg =>
                    iterate 5 (go_big_quiet_step ((go_at_call 40; exact Calls.quiet_of_same (snode_any _ _))))
                    by_cases h4 : 1099511627776 < life
                    case pos =>
                      as_aux_lemma =>
                        have HF : Hid (fitS idn l = false) := NO.out (by omega)
                        clear NO YES LA LB HP HB HOK
                        repeat (go_big_quiet_step ((go_at_call 40; exact Calls.quiet_of_same (snode_any _ _))))
                        refine wpQuiet_nil ?_
                        intro _ hw'
                        obtain ⟨nq, hw''⟩ := hw'
                        subst hw''
                        go_wp2
                        go_ret
                        exact ⟨ret_bool HF.out.symm, Below.drewn BW.out _⟩
                    case neg =>
                      iterate 5 (go_big_quiet_step ((go_at_call 40; exact Calls.quiet_of_same (snode_any _ _))))
                      by_cases h5 : mine < 0
                      case pos =>
                        as_aux_lemma =>
                          have HF : Hid (fitS idn l = false) := NO.out (by omega)
                          clear NO YES LA LB HP HB HOK
                          repeat (go_big_quiet_step ((go_at_call 40; exact Calls.quiet_of_same (snode_any _ _))))
                          refine wpQuiet_nil ?_
                          intro _ hw'
                          obtain ⟨nq, hw''⟩ := hw'
                          subst hw''
                          go_wp2
                          go_ret
                          exact ⟨ret_bool HF.out.symm, Below.drewn BW.out _⟩
                      case neg =>
                        iterate 5 (go_big_quiet_step ((go_at_call 40; exact Calls.quiet_of_same (snode_any _ _))))
                        by_cases h6 : 1099511627776 < mine
                        case pos =>
                          as_aux_lemma =>
                            have HF : Hid (fitS idn l = false) := NO.out (by omega)
                            clear NO YES LA LB HP HB HOK
                            repeat (go_big_quiet_step ((go_at_call 40; exact Calls.quiet_of_same (snode_any _ _))))
                            refine wpQuiet_nil ?_
                            intro _ hw'
                            obtain ⟨nq, hw''⟩ := hw'
                            subst hw''
                            go_wp2
                            go_ret
                            exact ⟨ret_bool HF.out.symm, Below.drewn BW.out _⟩
                        case neg =>
                          iterate 5 (go_big_quiet_step ((go_at_call 40; exact Calls.quiet_of_same (snode_any _ _))))
                          by_cases hb0 : boot = 0
                          case pos =>
                            have hb0b : (boot == 0) = true := by simpa using hb0
                            by_cases hl0 : life = 0
                            case neg =>
                              have hl0b : (life != 0) = true := by simpa using hl0
                              as_aux_lemma =>
                                have HF : Hid (fitS idn l = false) := NO.out (by omega)
                                clear hb0 hl0
                                clear NO YES LA LB HP HB HOK
                                repeat (go_big_quiet_step ((go_at_call 40; exact Calls.quiet_of_same (snode_any _ _))))
                                refine wpQuiet_nil ?_
                                intro _ hw'
                                obtain ⟨nq, hw''⟩ := hw'
                                subst hw''
                                go_wp2
                                go_ret
                                exact ⟨ret_bool HF.out.symm, Below.drewn BW.out _⟩
                            case pos =>
                              have hl0b : (life != 0) = false := by simpa using hl0
                              by_cases hm0 : mine = 0
                              case pos =>
                                have hm0b : (mine == 0) = true := by simpa using hm0
                                as_aux_lemma =>
                                  have HF : Hid (fitS idn l = false) := NO.out (by omega)
                                  clear hb0 hl0 hm0
                                  clear NO YES LA LB HP HB HOK
                                  repeat (go_big_quiet_step ((go_at_call 40; exact Calls.quiet_of_same (snode_any _ _))))
                                  refine wpQuiet_nil ?_
                                  intro _ hw'
                                  obtain ⟨nq, hw''⟩ := hw'
                                  subst hw''
                                  go_wp2
                                  go_ret
                                  exact ⟨ret_bool HF.out.symm, Below.drewn BW.out _⟩
                              case neg =>
                                have hm0b : (mine == 0) = false := by simpa using hm0
                                as_aux_lemma =>
                                  have HT : Hid (∀ j, j < i + 1 → okS idn l j = true) := YES.out (by have := HPI.out; have := HND.out; have := HLT.out; omega)
                                  clear hb0 hl0 hm0
                                  clear NO YES LA LB HP HB HOK
                                  repeat (go_big_quiet_step ((go_at_call 40; exact Calls.quiet_of_same (snode_any _ _))))
                                  refine wpQuiet_nil ?_
                                  intro _ hw'
                                  obtain ⟨nq, hw''⟩ := hw'
                                  subst hw''
                                  go_wp2
                                  go_roundg (gk - 1)
                                  case measure => have := HQI.out; omega
                                  case rel => exact ⟨i + 1, by first | rfl | go_num, by have := HQI.out; omega, Below.drewn BW.out _, HT.out⟩
                          case neg =>
                            have hb0b : (boot == 0) = false := by simpa using hb0
                            as_aux_lemma =>
                              have HT : Hid (∀ j, j < i + 1 → okS idn l j = true) := YES.out (by have := HPI.out; have := HND.out; have := HLT.out; omega)
                              clear hb0
                              clear NO YES LA LB HP HB HOK
                              repeat (go_big_quiet_step ((go_at_call 40; exact Calls.quiet_of_same (snode_any _ _))))
                              refine wpQuiet_nil ?_
                              intro _ hw'
                              obtain ⟨nq, hw''⟩ := hw'
                              subst hw''
                              go_wp2
                              go_roundg (gk - 1)
                              case measure => have := HQI.out; omega
                              case rel => exact ⟨i + 1, by first | rfl | go_num, by have := HQI.out; omega, Below.drewn BW.out _, HT.out⟩
    case neg =>
      have HI : Hid (i = l.length) := by show _ = _; rw [HL.out]; omega
      have HV : Hid (fitS idn l = nodeB idn) := fitS_yes (by rw [← HI.out]; exact HOK.out)
      have BW : Hid (Below w.heap.size w wr) := B
      clear hr B
      go_wp2_with (go_at_call 40; refine (snode_any _ _).mono ?_; rintro e w1 ⟨rfl, hw⟩; rw [hw]; clear hw w1)
      go_ret
      exact ⟨ret_bool HV.out.symm, BW.out⟩
end Go.Proofs.Yteoiogjaecpddaa
