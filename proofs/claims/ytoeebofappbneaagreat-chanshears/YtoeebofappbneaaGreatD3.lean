/-
  Package dir: which records are fit, the program's and the document's; Newer.
-/
import Derived.Test.YtoeebofappbneaaGreatD2
import Derived.Test.YtoeebofappbneaaGreatX0
namespace Go.Proofs.YtoeebofappbneaaGreat
open Go.ChangeShapes Go.WideShapes Go.ChangeAt Go.RowKit
set_option linter.unusedVariables false
set_option linter.unusedSimpArgs false

set_option maxRecDepth 100000 in
set_option maxHeartbeats 4000000 in
theorem fit_any (nm : ByteArray) (ep mr : Int) (al : Bool) (kd sc : Int) (w : World) : Calls Tryz.prog 81 #[chv nm ep mr al kd sc] w fun e w' => e = .returned (.bool (CH.fit ⟨nm, ep, mr, al, kd, sc⟩)) ∧ Below w.heap.size w w' := by
  have M := Mem.nil w
  have K1 := fun w => name_any nm w
  have K2 := fun w => within_any 1 ep 1099511627776 w
  have K3 := fun w => node_any mr w
  have K4 := fun w => kind_any kd w
  have K5 := fun w => scale_any kd sc w
  unfold CH.fit
  dsimp only
  generalize nameB nm = b1 at K1 ⊢
  generalize inB 1 ep 1099511627776 = b2 at K2 ⊢
  generalize nodeB mr = b3 at K3 ⊢
  generalize kindB kd = b4 at K4 ⊢
  generalize scaleB kd sc = b5 at K5 ⊢
  cases b1
  case false =>
    go_enter Tryz.func81, Tryz.ntmps81
    go_wp2_with (first
            | ((with_reducible show wpList _ _ _ (Oper.mk (some 1) (Op.box 47 _) _ _ _ _ :: _) _ _); refine wpList_box M rfl _ rfl _ rfl ?_; clear M; intro k1 W M)
            | ((with_reducible show wpList _ _ _ (Oper.mk _ (Op.load 9 _) _ _ _ _ :: _) _ _); refine wpList_cell9 M (by rfl) _ rfl _ rfl (by first | exact .head _) rfl ?_)
            | ((with_reducible show wpList _ _ _ (Oper.mk _ (Op.load 2 _) _ _ _ _ :: _) _ _); refine wpList_cell2 M (by rfl) _ rfl _ rfl (by first | exact .head _) rfl ?_)
            | ((with_reducible show wpList _ _ _ (Oper.mk _ (Op.load 3 _) _ _ _ _ :: _) _ _); refine wpList_cell3 M (by rfl) _ rfl _ rfl (by first | exact .head _) rfl ?_)
            | ((with_reducible show wpList _ _ _ (Oper.mk _ (Op.load 4 _) _ _ _ _ :: _) _ _); refine wpList_cell4 M (by rfl) _ rfl _ rfl (by first | exact .head _) rfl ?_)
            | (go_at_call 48; refine (K1 _).mono ?_; rintro e w1 ⟨rfl, rfl⟩)
            | (go_at_call 85; refine (K2 _).mono ?_; rintro e w1 ⟨rfl, rfl⟩)
            | (go_at_call 102; refine (K3 _).mono ?_; rintro e w1 ⟨rfl, rfl⟩)
            | (go_at_call 50; refine (K4 _).mono ?_; rintro e w1 ⟨rfl, rfl⟩)
            | (go_at_call 51; refine (K5 _).mono ?_; rintro e w1 ⟨rfl, rfl⟩))
    go_ret
    exact ⟨rfl, M.below⟩
  case true =>
    cases b2
    case false =>
      go_enter Tryz.func81, Tryz.ntmps81
      go_wp2_with (first
        | ((with_reducible show wpList _ _ _ (Oper.mk (some 1) (Op.box 47 _) _ _ _ _ :: _) _ _); refine wpList_box M rfl _ rfl _ rfl ?_; clear M; intro k1 W M)
        | ((with_reducible show wpList _ _ _ (Oper.mk _ (Op.load 9 _) _ _ _ _ :: _) _ _); refine wpList_cell9 M (by rfl) _ rfl _ rfl (by first | exact .head _) rfl ?_)
        | ((with_reducible show wpList _ _ _ (Oper.mk _ (Op.load 2 _) _ _ _ _ :: _) _ _); refine wpList_cell2 M (by rfl) _ rfl _ rfl (by first | exact .head _) rfl ?_)
        | ((with_reducible show wpList _ _ _ (Oper.mk _ (Op.load 3 _) _ _ _ _ :: _) _ _); refine wpList_cell3 M (by rfl) _ rfl _ rfl (by first | exact .head _) rfl ?_)
        | ((with_reducible show wpList _ _ _ (Oper.mk _ (Op.load 4 _) _ _ _ _ :: _) _ _); refine wpList_cell4 M (by rfl) _ rfl _ rfl (by first | exact .head _) rfl ?_)
        | (go_at_call 48; refine (K1 _).mono ?_; rintro e w1 ⟨rfl, rfl⟩)
        | (go_at_call 85; refine (K2 _).mono ?_; rintro e w1 ⟨rfl, rfl⟩)
        | (go_at_call 102; refine (K3 _).mono ?_; rintro e w1 ⟨rfl, rfl⟩)
        | (go_at_call 50; refine (K4 _).mono ?_; rintro e w1 ⟨rfl, rfl⟩)
        | (go_at_call 51; refine (K5 _).mono ?_; rintro e w1 ⟨rfl, rfl⟩))
      go_ret
      exact ⟨rfl, M.below⟩
    case true =>
      cases b3
      case false =>
        go_enter Tryz.func81, Tryz.ntmps81
        go_wp2_with (first
        | ((with_reducible show wpList _ _ _ (Oper.mk (some 1) (Op.box 47 _) _ _ _ _ :: _) _ _); refine wpList_box M rfl _ rfl _ rfl ?_; clear M; intro k1 W M)
        | ((with_reducible show wpList _ _ _ (Oper.mk _ (Op.load 9 _) _ _ _ _ :: _) _ _); refine wpList_cell9 M (by rfl) _ rfl _ rfl (by first | exact .head _) rfl ?_)
        | ((with_reducible show wpList _ _ _ (Oper.mk _ (Op.load 2 _) _ _ _ _ :: _) _ _); refine wpList_cell2 M (by rfl) _ rfl _ rfl (by first | exact .head _) rfl ?_)
        | ((with_reducible show wpList _ _ _ (Oper.mk _ (Op.load 3 _) _ _ _ _ :: _) _ _); refine wpList_cell3 M (by rfl) _ rfl _ rfl (by first | exact .head _) rfl ?_)
        | ((with_reducible show wpList _ _ _ (Oper.mk _ (Op.load 4 _) _ _ _ _ :: _) _ _); refine wpList_cell4 M (by rfl) _ rfl _ rfl (by first | exact .head _) rfl ?_)
        | (go_at_call 48; refine (K1 _).mono ?_; rintro e w1 ⟨rfl, rfl⟩)
        | (go_at_call 85; refine (K2 _).mono ?_; rintro e w1 ⟨rfl, rfl⟩)
        | (go_at_call 102; refine (K3 _).mono ?_; rintro e w1 ⟨rfl, rfl⟩)
        | (go_at_call 50; refine (K4 _).mono ?_; rintro e w1 ⟨rfl, rfl⟩)
        | (go_at_call 51; refine (K5 _).mono ?_; rintro e w1 ⟨rfl, rfl⟩))
        go_ret
        exact ⟨rfl, M.below⟩
      case true =>
        cases b4
        case false =>
          go_enter Tryz.func81, Tryz.ntmps81
          go_wp2_with (first
      | ((with_reducible show wpList _ _ _ (Oper.mk (some 1) (Op.box 47 _) _ _ _ _ :: _) _ _); refine wpList_box M rfl _ rfl _ rfl ?_; clear M; intro k1 W M)
      | ((with_reducible show wpList _ _ _ (Oper.mk _ (Op.load 9 _) _ _ _ _ :: _) _ _); refine wpList_cell9 M (by rfl) _ rfl _ rfl (by first | exact .head _) rfl ?_)
      | ((with_reducible show wpList _ _ _ (Oper.mk _ (Op.load 2 _) _ _ _ _ :: _) _ _); refine wpList_cell2 M (by rfl) _ rfl _ rfl (by first | exact .head _) rfl ?_)
      | ((with_reducible show wpList _ _ _ (Oper.mk _ (Op.load 3 _) _ _ _ _ :: _) _ _); refine wpList_cell3 M (by rfl) _ rfl _ rfl (by first | exact .head _) rfl ?_)
      | ((with_reducible show wpList _ _ _ (Oper.mk _ (Op.load 4 _) _ _ _ _ :: _) _ _); refine wpList_cell4 M (by rfl) _ rfl _ rfl (by first | exact .head _) rfl ?_)
      | (go_at_call 48; refine (K1 _).mono ?_; rintro e w1 ⟨rfl, rfl⟩)
      | (go_at_call 85; refine (K2 _).mono ?_; rintro e w1 ⟨rfl, rfl⟩)
      | (go_at_call 102; refine (K3 _).mono ?_; rintro e w1 ⟨rfl, rfl⟩)
      | (go_at_call 50; refine (K4 _).mono ?_; rintro e w1 ⟨rfl, rfl⟩)
      | (go_at_call 51; refine (K5 _).mono ?_; rintro e w1 ⟨rfl, rfl⟩))
          go_ret
          exact ⟨rfl, M.below⟩
        case true =>
          cases b5
          case false =>
            go_enter Tryz.func81, Tryz.ntmps81
            go_wp2_with (first
      | ((with_reducible show wpList _ _ _ (Oper.mk (some 1) (Op.box 47 _) _ _ _ _ :: _) _ _); refine wpList_box M rfl _ rfl _ rfl ?_; clear M; intro k1 W M)
      | ((with_reducible show wpList _ _ _ (Oper.mk _ (Op.load 9 _) _ _ _ _ :: _) _ _); refine wpList_cell9 M (by rfl) _ rfl _ rfl (by first | exact .head _) rfl ?_)
      | ((with_reducible show wpList _ _ _ (Oper.mk _ (Op.load 2 _) _ _ _ _ :: _) _ _); refine wpList_cell2 M (by rfl) _ rfl _ rfl (by first | exact .head _) rfl ?_)
      | ((with_reducible show wpList _ _ _ (Oper.mk _ (Op.load 3 _) _ _ _ _ :: _) _ _); refine wpList_cell3 M (by rfl) _ rfl _ rfl (by first | exact .head _) rfl ?_)
      | ((with_reducible show wpList _ _ _ (Oper.mk _ (Op.load 4 _) _ _ _ _ :: _) _ _); refine wpList_cell4 M (by rfl) _ rfl _ rfl (by first | exact .head _) rfl ?_)
      | (go_at_call 48; refine (K1 _).mono ?_; rintro e w1 ⟨rfl, rfl⟩)
      | (go_at_call 85; refine (K2 _).mono ?_; rintro e w1 ⟨rfl, rfl⟩)
      | (go_at_call 102; refine (K3 _).mono ?_; rintro e w1 ⟨rfl, rfl⟩)
      | (go_at_call 50; refine (K4 _).mono ?_; rintro e w1 ⟨rfl, rfl⟩)
      | (go_at_call 51; refine (K5 _).mono ?_; rintro e w1 ⟨rfl, rfl⟩))
            go_ret
            exact ⟨rfl, M.below⟩
          case true =>
            go_enter Tryz.func81, Tryz.ntmps81
            go_wp2_with (first
      | ((with_reducible show wpList _ _ _ (Oper.mk (some 1) (Op.box 47 _) _ _ _ _ :: _) _ _); refine wpList_box M rfl _ rfl _ rfl ?_; clear M; intro k1 W M)
      | ((with_reducible show wpList _ _ _ (Oper.mk _ (Op.load 9 _) _ _ _ _ :: _) _ _); refine wpList_cell9 M (by rfl) _ rfl _ rfl (by first | exact .head _) rfl ?_)
      | ((with_reducible show wpList _ _ _ (Oper.mk _ (Op.load 2 _) _ _ _ _ :: _) _ _); refine wpList_cell2 M (by rfl) _ rfl _ rfl (by first | exact .head _) rfl ?_)
      | ((with_reducible show wpList _ _ _ (Oper.mk _ (Op.load 3 _) _ _ _ _ :: _) _ _); refine wpList_cell3 M (by rfl) _ rfl _ rfl (by first | exact .head _) rfl ?_)
      | ((with_reducible show wpList _ _ _ (Oper.mk _ (Op.load 4 _) _ _ _ _ :: _) _ _); refine wpList_cell4 M (by rfl) _ rfl _ rfl (by first | exact .head _) rfl ?_)
      | (go_at_call 48; refine (K1 _).mono ?_; rintro e w1 ⟨rfl, rfl⟩)
      | (go_at_call 85; refine (K2 _).mono ?_; rintro e w1 ⟨rfl, rfl⟩)
      | (go_at_call 102; refine (K3 _).mono ?_; rintro e w1 ⟨rfl, rfl⟩)
      | (go_at_call 50; refine (K4 _).mono ?_; rintro e w1 ⟨rfl, rfl⟩)
      | (go_at_call 51; refine (K5 _).mono ?_; rintro e w1 ⟨rfl, rfl⟩))
            go_ret
            exact ⟨rfl, M.below⟩
set_option maxRecDepth 100000 in
set_option maxHeartbeats 4000000 in
theorem rfit_any (nm : ByteArray) (ep mr : Int) (al : Bool) (kd sc : Int) (w : World) (hs : Hid ((nm.size : Int) ≤ 9223372036854775807)) : Calls Tryz.prog 45 #[chv nm ep mr al kd sc] w fun e w' => e = .returned (.bool (CH.fit ⟨nm, ep, mr, al, kd, sc⟩)) ∧ Below w.heap.size w w' := by
  have M := Mem.nil w
  have K1 := fun w => rname_any nm w hs
  have K5 := fun w => rscale_any kd sc w
  have HF : Hid (CH.fit ⟨nm, ep, mr, al, kd, sc⟩ = (nameB nm && (inB 1 ep 1099511627776 && (nodeB mr && (kindB kd && scaleB kd sc))))) := rfl
  generalize nameB nm = b1 at K1 HF
  generalize scaleB kd sc = b5 at K5 HF
  cases b1
  case false =>
    have HV : Hid (CH.fit ⟨nm, ep, mr, al, kd, sc⟩ = false) := by show _ = _; rw [HF.out]; simp [inB, nodeB, kindB]; try omega
    clear HF
    go_enter Tryz.func45, Tryz.ntmps45
    go_wp2_with (first
      | ((with_reducible show wpList _ _ _ (Oper.mk (some 1) (Op.box 47 _) _ _ _ _ :: _) _ _); refine wpList_box M rfl _ rfl _ rfl ?_; clear M; intro k1 W M)
      | ((with_reducible show wpList _ _ _ (Oper.mk _ (Op.load 9 _) _ _ _ _ :: _) _ _); refine wpList_cell9 M (by rfl) _ rfl _ rfl (by first | exact .head _) rfl ?_)
      | ((with_reducible show wpList _ _ _ (Oper.mk _ (Op.load 2 _) _ _ _ _ :: _) _ _); refine wpList_cell2 M (by rfl) _ rfl _ rfl (by first | exact .head _) rfl ?_)
      | ((with_reducible show wpList _ _ _ (Oper.mk _ (Op.load 3 _) _ _ _ _ :: _) _ _); refine wpList_cell3 M (by rfl) _ rfl _ rfl (by first | exact .head _) rfl ?_)
      | (go_at_call 62; refine (K1 _).mono ?_; rintro e w1 ⟨rfl, rfl⟩)
      | (go_at_call 64; refine (K5 _).mono ?_; rintro e w1 ⟨rfl, rfl⟩))
    go_ret
    exact ⟨ret_bool HV.out.symm, M.below⟩
  case true =>
    by_cases h0 : 1 ≤ ep
    case neg =>
      have HV : Hid (CH.fit ⟨nm, ep, mr, al, kd, sc⟩ = false) := by show _ = _; rw [HF.out]; simp [inB, nodeB, kindB]; try omega
      clear HF
      go_enter Tryz.func45, Tryz.ntmps45
      go_wp2_with (first
      | ((with_reducible show wpList _ _ _ (Oper.mk (some 1) (Op.box 47 _) _ _ _ _ :: _) _ _); refine wpList_box M rfl _ rfl _ rfl ?_; clear M; intro k1 W M)
      | ((with_reducible show wpList _ _ _ (Oper.mk _ (Op.load 9 _) _ _ _ _ :: _) _ _); refine wpList_cell9 M (by rfl) _ rfl _ rfl (by first | exact .head _) rfl ?_)
      | ((with_reducible show wpList _ _ _ (Oper.mk _ (Op.load 2 _) _ _ _ _ :: _) _ _); refine wpList_cell2 M (by rfl) _ rfl _ rfl (by first | exact .head _) rfl ?_)
      | ((with_reducible show wpList _ _ _ (Oper.mk _ (Op.load 3 _) _ _ _ _ :: _) _ _); refine wpList_cell3 M (by rfl) _ rfl _ rfl (by first | exact .head _) rfl ?_)
      | (go_at_call 62; refine (K1 _).mono ?_; rintro e w1 ⟨rfl, rfl⟩)
      | (go_at_call 64; refine (K5 _).mono ?_; rintro e w1 ⟨rfl, rfl⟩))
      go_ret
      exact ⟨ret_bool HV.out.symm, M.below⟩
    case pos =>
      by_cases h1 : ep ≤ 1099511627776
      case neg =>
        have HV : Hid (CH.fit ⟨nm, ep, mr, al, kd, sc⟩ = false) := by show _ = _; rw [HF.out]; simp [inB, nodeB, kindB]; try omega
        clear HF
        go_enter Tryz.func45, Tryz.ntmps45
        go_wp2_with (first
      | ((with_reducible show wpList _ _ _ (Oper.mk (some 1) (Op.box 47 _) _ _ _ _ :: _) _ _); refine wpList_box M rfl _ rfl _ rfl ?_; clear M; intro k1 W M)
      | ((with_reducible show wpList _ _ _ (Oper.mk _ (Op.load 9 _) _ _ _ _ :: _) _ _); refine wpList_cell9 M (by rfl) _ rfl _ rfl (by first | exact .head _) rfl ?_)
      | ((with_reducible show wpList _ _ _ (Oper.mk _ (Op.load 2 _) _ _ _ _ :: _) _ _); refine wpList_cell2 M (by rfl) _ rfl _ rfl (by first | exact .head _) rfl ?_)
      | ((with_reducible show wpList _ _ _ (Oper.mk _ (Op.load 3 _) _ _ _ _ :: _) _ _); refine wpList_cell3 M (by rfl) _ rfl _ rfl (by first | exact .head _) rfl ?_)
      | (go_at_call 62; refine (K1 _).mono ?_; rintro e w1 ⟨rfl, rfl⟩)
      | (go_at_call 64; refine (K5 _).mono ?_; rintro e w1 ⟨rfl, rfl⟩))
        go_ret
        exact ⟨ret_bool HV.out.symm, M.below⟩
      case pos =>
        by_cases h2 : 0 ≤ mr
        case neg =>
          have HV : Hid (CH.fit ⟨nm, ep, mr, al, kd, sc⟩ = false) := by show _ = _; rw [HF.out]; simp [inB, nodeB, kindB]; try omega
          clear HF
          go_enter Tryz.func45, Tryz.ntmps45
          go_wp2_with (first
      | ((with_reducible show wpList _ _ _ (Oper.mk (some 1) (Op.box 47 _) _ _ _ _ :: _) _ _); refine wpList_box M rfl _ rfl _ rfl ?_; clear M; intro k1 W M)
      | ((with_reducible show wpList _ _ _ (Oper.mk _ (Op.load 9 _) _ _ _ _ :: _) _ _); refine wpList_cell9 M (by rfl) _ rfl _ rfl (by first | exact .head _) rfl ?_)
      | ((with_reducible show wpList _ _ _ (Oper.mk _ (Op.load 2 _) _ _ _ _ :: _) _ _); refine wpList_cell2 M (by rfl) _ rfl _ rfl (by first | exact .head _) rfl ?_)
      | ((with_reducible show wpList _ _ _ (Oper.mk _ (Op.load 3 _) _ _ _ _ :: _) _ _); refine wpList_cell3 M (by rfl) _ rfl _ rfl (by first | exact .head _) rfl ?_)
      | (go_at_call 62; refine (K1 _).mono ?_; rintro e w1 ⟨rfl, rfl⟩)
      | (go_at_call 64; refine (K5 _).mono ?_; rintro e w1 ⟨rfl, rfl⟩))
          go_ret
          exact ⟨ret_bool HV.out.symm, M.below⟩
        case pos =>
          by_cases h3 : mr < 16
          case neg =>
            have HV : Hid (CH.fit ⟨nm, ep, mr, al, kd, sc⟩ = false) := by show _ = _; rw [HF.out]; simp [inB, nodeB, kindB]; try omega
            clear HF
            go_enter Tryz.func45, Tryz.ntmps45
            go_wp2_with (first
      | ((with_reducible show wpList _ _ _ (Oper.mk (some 1) (Op.box 47 _) _ _ _ _ :: _) _ _); refine wpList_box M rfl _ rfl _ rfl ?_; clear M; intro k1 W M)
      | ((with_reducible show wpList _ _ _ (Oper.mk _ (Op.load 9 _) _ _ _ _ :: _) _ _); refine wpList_cell9 M (by rfl) _ rfl _ rfl (by first | exact .head _) rfl ?_)
      | ((with_reducible show wpList _ _ _ (Oper.mk _ (Op.load 2 _) _ _ _ _ :: _) _ _); refine wpList_cell2 M (by rfl) _ rfl _ rfl (by first | exact .head _) rfl ?_)
      | ((with_reducible show wpList _ _ _ (Oper.mk _ (Op.load 3 _) _ _ _ _ :: _) _ _); refine wpList_cell3 M (by rfl) _ rfl _ rfl (by first | exact .head _) rfl ?_)
      | (go_at_call 62; refine (K1 _).mono ?_; rintro e w1 ⟨rfl, rfl⟩)
      | (go_at_call 64; refine (K5 _).mono ?_; rintro e w1 ⟨rfl, rfl⟩))
            go_ret
            exact ⟨ret_bool HV.out.symm, M.below⟩
          case pos =>
            by_cases h4 : 1 ≤ kd
            case neg =>
              have HV : Hid (CH.fit ⟨nm, ep, mr, al, kd, sc⟩ = false) := by show _ = _; rw [HF.out]; simp [inB, nodeB, kindB]; try omega
              clear HF
              go_enter Tryz.func45, Tryz.ntmps45
              go_wp2_with (first
      | ((with_reducible show wpList _ _ _ (Oper.mk (some 1) (Op.box 47 _) _ _ _ _ :: _) _ _); refine wpList_box M rfl _ rfl _ rfl ?_; clear M; intro k1 W M)
      | ((with_reducible show wpList _ _ _ (Oper.mk _ (Op.load 9 _) _ _ _ _ :: _) _ _); refine wpList_cell9 M (by rfl) _ rfl _ rfl (by first | exact .head _) rfl ?_)
      | ((with_reducible show wpList _ _ _ (Oper.mk _ (Op.load 2 _) _ _ _ _ :: _) _ _); refine wpList_cell2 M (by rfl) _ rfl _ rfl (by first | exact .head _) rfl ?_)
      | ((with_reducible show wpList _ _ _ (Oper.mk _ (Op.load 3 _) _ _ _ _ :: _) _ _); refine wpList_cell3 M (by rfl) _ rfl _ rfl (by first | exact .head _) rfl ?_)
      | (go_at_call 62; refine (K1 _).mono ?_; rintro e w1 ⟨rfl, rfl⟩)
      | (go_at_call 64; refine (K5 _).mono ?_; rintro e w1 ⟨rfl, rfl⟩))
              go_ret
              exact ⟨ret_bool HV.out.symm, M.below⟩
            case pos =>
              by_cases h5 : kd ≤ 4
              case neg =>
                have HV : Hid (CH.fit ⟨nm, ep, mr, al, kd, sc⟩ = false) := by show _ = _; rw [HF.out]; simp [inB, nodeB, kindB]; try omega
                clear HF
                go_enter Tryz.func45, Tryz.ntmps45
                go_wp2_with (first
      | ((with_reducible show wpList _ _ _ (Oper.mk (some 1) (Op.box 47 _) _ _ _ _ :: _) _ _); refine wpList_box M rfl _ rfl _ rfl ?_; clear M; intro k1 W M)
      | ((with_reducible show wpList _ _ _ (Oper.mk _ (Op.load 9 _) _ _ _ _ :: _) _ _); refine wpList_cell9 M (by rfl) _ rfl _ rfl (by first | exact .head _) rfl ?_)
      | ((with_reducible show wpList _ _ _ (Oper.mk _ (Op.load 2 _) _ _ _ _ :: _) _ _); refine wpList_cell2 M (by rfl) _ rfl _ rfl (by first | exact .head _) rfl ?_)
      | ((with_reducible show wpList _ _ _ (Oper.mk _ (Op.load 3 _) _ _ _ _ :: _) _ _); refine wpList_cell3 M (by rfl) _ rfl _ rfl (by first | exact .head _) rfl ?_)
      | (go_at_call 62; refine (K1 _).mono ?_; rintro e w1 ⟨rfl, rfl⟩)
      | (go_at_call 64; refine (K5 _).mono ?_; rintro e w1 ⟨rfl, rfl⟩))
                go_ret
                exact ⟨ret_bool HV.out.symm, M.below⟩
              case pos =>
                cases b5
                case false =>
                  have HV : Hid (CH.fit ⟨nm, ep, mr, al, kd, sc⟩ = false) := by show _ = _; rw [HF.out]; simp [inB, nodeB, kindB]; try omega
                  clear HF
                  go_enter Tryz.func45, Tryz.ntmps45
                  go_wp2_with (first
      | ((with_reducible show wpList _ _ _ (Oper.mk (some 1) (Op.box 47 _) _ _ _ _ :: _) _ _); refine wpList_box M rfl _ rfl _ rfl ?_; clear M; intro k1 W M)
      | ((with_reducible show wpList _ _ _ (Oper.mk _ (Op.load 9 _) _ _ _ _ :: _) _ _); refine wpList_cell9 M (by rfl) _ rfl _ rfl (by first | exact .head _) rfl ?_)
      | ((with_reducible show wpList _ _ _ (Oper.mk _ (Op.load 2 _) _ _ _ _ :: _) _ _); refine wpList_cell2 M (by rfl) _ rfl _ rfl (by first | exact .head _) rfl ?_)
      | ((with_reducible show wpList _ _ _ (Oper.mk _ (Op.load 3 _) _ _ _ _ :: _) _ _); refine wpList_cell3 M (by rfl) _ rfl _ rfl (by first | exact .head _) rfl ?_)
      | (go_at_call 62; refine (K1 _).mono ?_; rintro e w1 ⟨rfl, rfl⟩)
      | (go_at_call 64; refine (K5 _).mono ?_; rintro e w1 ⟨rfl, rfl⟩))
                  go_ret
                  exact ⟨ret_bool HV.out.symm, M.below⟩
                case true =>
                  have HV : Hid (CH.fit ⟨nm, ep, mr, al, kd, sc⟩ = true) := by show _ = _; rw [HF.out]; simp [inB, nodeB, kindB]; try omega
                  clear HF
                  go_enter Tryz.func45, Tryz.ntmps45
                  go_wp2_with (first
      | ((with_reducible show wpList _ _ _ (Oper.mk (some 1) (Op.box 47 _) _ _ _ _ :: _) _ _); refine wpList_box M rfl _ rfl _ rfl ?_; clear M; intro k1 W M)
      | ((with_reducible show wpList _ _ _ (Oper.mk _ (Op.load 9 _) _ _ _ _ :: _) _ _); refine wpList_cell9 M (by rfl) _ rfl _ rfl (by first | exact .head _) rfl ?_)
      | ((with_reducible show wpList _ _ _ (Oper.mk _ (Op.load 2 _) _ _ _ _ :: _) _ _); refine wpList_cell2 M (by rfl) _ rfl _ rfl (by first | exact .head _) rfl ?_)
      | ((with_reducible show wpList _ _ _ (Oper.mk _ (Op.load 3 _) _ _ _ _ :: _) _ _); refine wpList_cell3 M (by rfl) _ rfl _ rfl (by first | exact .head _) rfl ?_)
      | (go_at_call 62; refine (K1 _).mono ?_; rintro e w1 ⟨rfl, rfl⟩)
      | (go_at_call 64; refine (K5 _).mono ?_; rintro e w1 ⟨rfl, rfl⟩))
                  go_ret
                  exact ⟨ret_bool HV.out.symm, M.below⟩
end Go.Proofs.YtoeebofappbneaaGreat
