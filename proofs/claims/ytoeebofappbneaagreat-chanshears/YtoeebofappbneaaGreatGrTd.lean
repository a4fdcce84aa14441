/-
  Package chans: the document's Fit.
-/
import Derived.Test.YtoeebofappbneaaGreatGrTc
namespace Go.Proofs.YtoeebofappbneaaGreat
open Go.ChangeShapes Go.WideShapes Go.ChangeAt Go.RowKit Go.Maps Go.Shelf
set_option linter.unusedVariables false
set_option linter.unusedSimpArgs false

def okB (al hv zi f0 k4 e1 e2 f1 f2 : Bool) : Bool := if al = true then ((hv || zi) && (f0 && (if k4 = true then f1 && f2 else e1 && e2))) else (!hv && (zi && (e1 && e2)))
theorem okB_eq (nm : ByteArray) (ep mr : Int) (al : Bool) (kd sc : Int) (hv : Bool) (iv : Int) (h1 : Bool) (v1 o1 g1 : Int) (h2 : Bool) (v2 o2 g2 : Int) : okS ⟨⟨nm, ep, mr, al, kd, sc⟩, hv, iv, ⟨h1, v1, o1, g1⟩, ⟨h2, v2, o2, g2⟩⟩ = okB al hv (iv == 0) (E.flowB iv) (kd == 4) (E.sameX ⟨h1, v1, o1, g1⟩ E.EX.z) (E.sameX ⟨h2, v2, o2, g2⟩ E.EX.z) (E.fitB ⟨h1, v1, o1, g1⟩) (E.fitB ⟨h2, v2, o2, g2⟩) := by
  unfold okS okB
  dsimp only
  by_cases h : kd = 4
  · have e : (kd == 4) = true := by simpa using h
    rw [if_pos h, e]
    rfl
  · have e : (kd == 4) = false := by simpa using h
    rw [if_neg h, e]
    rfl
set_option maxRecDepth 100000 in
set_option maxHeartbeats 16000000 in
theorem rfit_any8 (id : Int) (a : Option Addr) (n cap : Nat) (l : List ST) (w : World) (hr : RdT w a n cap l) (hs : ∀ x, x ∈ recs l → (x.nm.size : Int) ≤ 9223372036854775807) : Calls Tryz.prog 5 #[.int .i64 id, .slice a n cap] w fun e w' => e = .returned (.bool (fitS id l)) ∧ Below w.heap.size w w' := by
  have M := Mem.nil w
  have HN : Hid (n * 136 ≤ 140737488355328) := hr.max
  have HL : Hid (l.length = n) := hr.size
  have HSZ : Hid (∀ x, x ∈ recs l → (x.nm.size : Int) ≤ 9223372036854775807) := hs
  clear hs
  have KR : ∀ W, Below w.heap.size w W → Calls Tryz.prog 21 #[.slice a n cap] W (Ans W (recs l)) := fun W b => rrecords_any a n cap l W (hr.below b)
  obtain ⟨R, hR⟩ : ∃ R, fitS id l = R := ⟨_, rfl⟩
  have HR : Hid (fitS id l = R) := hR
  rw [hR]
  clear hR
  by_cases c0 : id < 0
  case pos =>
    have HF : Hid (R = false) := HR.out.symm.trans (fit_no (node_lo c0))
    go_enter Tryz.func5, Tryz.ntmps5
    go_wp2
    go_ret
    exact ⟨ret_bool HF.out.symm, Below.refl _ _⟩
  case neg =>
  by_cases c1 : id < 16
  case neg =>
    have HF : Hid (R = false) := HR.out.symm.trans (fit_no (node_hi c1))
    go_enter Tryz.func5, Tryz.ntmps5
    go_wp2
    go_ret
    exact ⟨ret_bool HF.out.symm, Below.refl _ _⟩
  case pos =>
  have HNd : Hid (nodeB id = true) := node_in c0 c1
  obtain ⟨fr, hfr⟩ : ∃ fr, fitsB (recs l) = fr := ⟨_, rfl⟩
  have HFR : Hid (fitsB (recs l) = fr) := hfr
  cases fr with
  | false =>
    have HF : Hid (R = false) := HR.out.symm.trans (fit_nr hfr)
    go_enter Tryz.func5, Tryz.ntmps5
    go_wp2_with (first
      | (go_at_call 21; refine (KR _ M.below).mono ?_; clear KR; rintro e W2 ⟨a2, c2, rfl, L2, o2, b2⟩; replace M := M.later b2; have KF := rfits_any a2 _ c2 (recs l) W2 (rd_recs L2 HL.out HN.out) HSZ.out; rw [hfr] at KF; clear b2 o2)
      | (go_at_call 20; refine KF.mono ?_; clear KF L2; rintro e W3 ⟨rfl, b3⟩; replace M := M.later b3; clear b3))
    go_ret
    exact ⟨ret_bool HF.out.symm, M.below⟩
  | true =>
  go_enter Tryz.func5, Tryz.ntmps5
  go_wp2_with (first
      | (go_at_call 21; refine (KR _ M.below).mono ?_; clear KR; rintro e W2 ⟨a2, c2, rfl, L2, o2, b2⟩; replace M := M.later b2; have KF := rfits_any a2 _ c2 (recs l) W2 (rd_recs L2 HL.out HN.out) HSZ.out; rw [hfr] at KF; clear b2 o2)
      | (go_at_call 20; refine KF.mono ?_; clear KF L2; rintro e W3 ⟨rfl, b3⟩; replace M := M.later b3; clear b3))
  clear hfr c0 c1
  go_loopg [5, 6, 7] n (fun gk v5 v6 v7 wr => ∃ i : Nat, v5 = .int .i64 (i : Int) ∧ i + gk = n ∧ Mem w wr [] ∧ Hid (∀ j, j < i → okS (l.getD j ST.z) = true))
  case atStart => exact ⟨0, by first | rfl | go_num, by omega, M, fun j hj => by omega⟩
  case round =>
    clear M
    obtain ⟨i, rfl, hgk, M, HA⟩ := hrel
    by_cases hi : i < n
    case pos =>
      have HI : Hid (i < n) := hi
      have hiI : (i : Int) < (n : Int) := by omega
      have hwr : IntKind.i64.wrap ((i : Int) + 1) = (i : Int) + 1 := by rw [IntKind.wrap_i64]; have := HN.out; omega
      obtain ⟨b, off, rfl, hb1, hd, hra⟩ := hr.at i hi
      obtain ⟨⟨⟨nm, ep, mr, al, kd, sc⟩, hv, iv, ⟨h1, v1, o1, g1⟩, ⟨h2, v2, o2, g2⟩⟩, hri⟩ : ∃ r, l.getD i ST.z = r := ⟨_, rfl⟩
      rw [hri] at hra
      have HX : Hid (l.getD i ST.z = ⟨⟨nm, ep, mr, al, kd, sc⟩, hv, iv, ⟨h1, v1, o1, g1⟩, ⟨h2, v2, o2, g2⟩⟩) := hri
      have KR : ∀ X, Below w.heap.size w X → X.rangeAt b (off + i * 16) (ST.cells ⟨⟨nm, ep, mr, al, kd, sc⟩, hv, iv, ⟨h1, v1, o1, g1⟩, ⟨h2, v2, o2, g2⟩⟩) := fun X h => range_later hra hb1 h
      have HBAD : Hid (okS ⟨⟨nm, ep, mr, al, kd, sc⟩, hv, iv, ⟨h1, v1, o1, g1⟩, ⟨h2, v2, o2, g2⟩⟩ = false → R = false) := fun h => HR.out.symm.trans (fit_ns (i := i) (by rw [HL.out]; exact HI.out) (by rw [HX.out]; exact h))
      have HOKN : Hid (okS ⟨⟨nm, ep, mr, al, kd, sc⟩, hv, iv, ⟨h1, v1, o1, g1⟩, ⟨h2, v2, o2, g2⟩⟩ = true → ∀ j, j < i + 1 → okS (l.getD j ST.z) = true) := fun h j hj => by
        by_cases e : j = i
        · rw [e, HX.out]; exact h
        · exact HA.out j (by omega)
      clear hri hd hi hra
      obtain ⟨e1, he1⟩ : ∃ e1, E.sameX ⟨h1, v1, o1, g1⟩ E.EX.z = e1 := ⟨_, rfl⟩
      obtain ⟨e2, he2⟩ : ∃ e2, E.sameX ⟨h2, v2, o2, g2⟩ E.EX.z = e2 := ⟨_, rfl⟩
      obtain ⟨f1, hf1⟩ : ∃ f1, E.fitB ⟨h1, v1, o1, g1⟩ = f1 := ⟨_, rfl⟩
      obtain ⟨f2, hf2⟩ : ∃ f2, E.fitB ⟨h2, v2, o2, g2⟩ = f2 := ⟨_, rfl⟩
      obtain ⟨f0, hf0⟩ : ∃ f0, E.flowB iv = f0 := ⟨_, rfl⟩
      obtain ⟨zi, hzi⟩ : ∃ zi, (iv == 0) = zi := ⟨_, rfl⟩
      obtain ⟨k4, hk4⟩ : ∃ k4, (kd == 4) = k4 := ⟨_, rfl⟩
      have hzi2 : (iv != 0) = !zi := by rw [← hzi]; rfl
      have hk42 : (kd != 4) = !k4 := by rw [← hk4]; rfl
      have HE1 : Hid (E.sameX ⟨h1, v1, o1, g1⟩ E.EX.z = e1) := he1
      have HE2 : Hid (E.sameX ⟨h2, v2, o2, g2⟩ E.EX.z = e2) := he2
      have FZ0 : Hid (zi = true → f0 = true) := fun h => by rw [← hf0, show iv = 0 by simpa using hzi.trans h]; decide
      have FZ1 : Hid (e1 = true → f1 = true) := fun h => by rw [← hf1, (E.sameX_eq _ _).1 (he1.trans h)]; exact E.fit_z
      have FZ2 : Hid (e2 = true → f2 = true) := fun h => by rw [← hf2, (E.sameX_eq _ _).1 (he2.trans h)]; exact E.fit_z
      have K0 : ∀ W, Calls Tryz.prog 22 #[.int .i64 iv] W fun e w' => e = .returned (.bool f0) ∧ w' = W := fun W => by rw [← hf0]; exact rflow_any iv W
      have K1 : ∀ W, Calls Tryz.prog 15 #[exv h1 v1 o1 g1] W fun e w' => e = .returned (.bool f1) ∧ Below W.heap.size W w' := fun W => by rw [← hf1]; exact E.rfit_any h1 v1 o1 g1 W
      have K2 : ∀ W, Calls Tryz.prog 15 #[exv h2 v2 o2 g2] W fun e w' => e = .returned (.bool f2) ∧ Below W.heap.size W w' := fun W => by rw [← hf2]; exact E.rfit_any h2 v2 o2 g2 W
      have HO : Hid (okS ⟨⟨nm, ep, mr, al, kd, sc⟩, hv, iv, ⟨h1, v1, o1, g1⟩, ⟨h2, v2, o2, g2⟩⟩ = okB al hv zi f0 k4 e1 e2 f1 f2) := by
        show _ = _
        rw [okB_eq, hzi, hf0, hk4, he1, he2, hf1, hf2]
      clear he1 he2 hf1 hf2 hf0 hzi hk4
      cases e1 with
      | false =>
        cases al with
        | false =>
          cases hv with
          | false =>
            have HF : Hid (R = false) := HBAD.out (HO.out.trans (by simp [okB]))
            go_wp2_with (first
                  | ((with_reducible show wpList _ _ _ (Oper.mk _ (Op.load 49 (Operand.tmp 28)) _ _ _ _ :: _) _ _); refine wpList_load35w (by rfl) _ rfl b (off + i * 16) _ _ _ _ _ _ _ _ _ _ _ _ _ _ _ _ rfl (KR _ M.below) ?_)
                  | ((with_reducible show wpList _ _ _ (Oper.mk (some 6) (Op.alloc 49) _ _ _ _ :: _) _ _); refine wpList_alloc M rfl rfl rtT ?_; clear M; intro k6 W M)
                  | ((with_reducible show wpList _ _ _ (Oper.mk _ (Op.store 49 _ _) _ _ _ _ :: _) _ _); (first | (refine wpList_put M rfl _ _ rfl rtT 0 _ rfl rfl rfl rfl rfl (by simp [Value.oneCell']) ?_)); clear M; intro W M; simp only [List.set_cons_zero, List.set_cons_succ] at M)
                  | ((with_reducible show wpList _ _ _ (Oper.mk _ (Op.load 38 (Operand.tmp 30)) _ _ _ _ :: _) _ _); refine wpList_loadp M (by rfl) _ rfl rtX _ rfl (by first | exact .head _) (by rfl) (by rfl) ?_)
                  | ((with_reducible show wpList _ _ _ (Oper.mk _ (Op.load 38 (Operand.tmp 35)) _ _ _ _ :: _) _ _); refine wpList_loadp M (by rfl) _ rfl rtX _ rfl (by first | exact .head _) (by rfl) (by rfl) ?_)
                  | ((with_reducible show wpList _ _ _ (Oper.mk _ (Op.load 38 (Operand.tmp 79)) _ _ _ _ :: _) _ _); refine wpList_loadp M (by rfl) _ rfl rtX _ rfl (by first | exact .head _) (by rfl) (by rfl) ?_)
                  | ((with_reducible show wpList _ _ _ (Oper.mk _ (Op.load 38 (Operand.tmp 85)) _ _ _ _ :: _) _ _); refine wpList_loadp M (by rfl) _ rfl rtX _ rfl (by first | exact .head _) (by rfl) (by rfl) ?_)
                  | ((with_reducible show wpList _ _ _ (Oper.mk _ (Op.binOp BinOp.eql 38 _ _ 38) _ _ _ _ :: _) _ _); refine wpList_value (by first | rfl | go_simp) _ ((E.exec_eql23 rfl ⟨h1, v1, o1, g1⟩ E.EX.z rfl rfl _).trans (congrArg (fun b => Result.ok (Next.value (Value.bool b)) _) HE1.out)) ?_)
                  | ((with_reducible show wpList _ _ _ (Oper.mk _ (Op.binOp BinOp.eql 38 _ _ 38) _ _ _ _ :: _) _ _); refine wpList_value (by first | rfl | go_simp) _ ((E.exec_eql23 rfl ⟨h2, v2, o2, g2⟩ E.EX.z rfl rfl _).trans (congrArg (fun b => Result.ok (Next.value (Value.bool b)) _) HE2.out)) ?_)
                  | ((with_reducible show wpList _ _ _ (Oper.mk _ (Op.load 4 _) _ _ _ _ :: _) _ _); refine wpList_cell4 M (by rfl) _ rfl _ rfl (by first | exact .head _) rfl ?_)
                  | ((with_reducible show wpList _ _ _ (Oper.mk _ (Op.load 2 _) _ _ _ _ :: _) _ _); refine wpList_cell2 M (by rfl) _ rfl _ rfl (by first | exact .head _) rfl ?_)
                  | ((with_reducible show wpList _ _ _ (Oper.mk _ (Op.load 3 _) _ _ _ _ :: _) _ _); refine wpList_cell3 M (by rfl) _ rfl _ rfl (by first | exact .head _) rfl ?_)
                  | (go_at_call 22; refine (K0 _).mono ?_; clear K0; rintro e W2 ⟨rfl, rfl⟩)
                  | (go_at_call 15; refine (K1 _).mono ?_; clear K1; rintro e W2 ⟨rfl, b1⟩; replace M := M.later b1; clear b1)
                  | (go_at_call 15; refine (K2 _).mono ?_; clear K2; rintro e W2 ⟨rfl, b1⟩; replace M := M.later b1; clear b1))
            go_ret
            exact ⟨ret_bool HF.out.symm, M.below⟩
          | true =>
            have HF : Hid (R = false) := HBAD.out (HO.out.trans (by simp [okB]))
            go_wp2_with (first
                  | ((with_reducible show wpList _ _ _ (Oper.mk _ (Op.load 49 (Operand.tmp 28)) _ _ _ _ :: _) _ _); refine wpList_load35w (by rfl) _ rfl b (off + i * 16) _ _ _ _ _ _ _ _ _ _ _ _ _ _ _ _ rfl (KR _ M.below) ?_)
                  | ((with_reducible show wpList _ _ _ (Oper.mk (some 6) (Op.alloc 49) _ _ _ _ :: _) _ _); refine wpList_alloc M rfl rfl rtT ?_; clear M; intro k6 W M)
                  | ((with_reducible show wpList _ _ _ (Oper.mk _ (Op.store 49 _ _) _ _ _ _ :: _) _ _); (first | (refine wpList_put M rfl _ _ rfl rtT 0 _ rfl rfl rfl rfl rfl (by simp [Value.oneCell']) ?_)); clear M; intro W M; simp only [List.set_cons_zero, List.set_cons_succ] at M)
                  | ((with_reducible show wpList _ _ _ (Oper.mk _ (Op.load 38 (Operand.tmp 30)) _ _ _ _ :: _) _ _); refine wpList_loadp M (by rfl) _ rfl rtX _ rfl (by first | exact .head _) (by rfl) (by rfl) ?_)
                  | ((with_reducible show wpList _ _ _ (Oper.mk _ (Op.load 38 (Operand.tmp 35)) _ _ _ _ :: _) _ _); refine wpList_loadp M (by rfl) _ rfl rtX _ rfl (by first | exact .head _) (by rfl) (by rfl) ?_)
                  | ((with_reducible show wpList _ _ _ (Oper.mk _ (Op.load 38 (Operand.tmp 79)) _ _ _ _ :: _) _ _); refine wpList_loadp M (by rfl) _ rfl rtX _ rfl (by first | exact .head _) (by rfl) (by rfl) ?_)
                  | ((with_reducible show wpList _ _ _ (Oper.mk _ (Op.load 38 (Operand.tmp 85)) _ _ _ _ :: _) _ _); refine wpList_loadp M (by rfl) _ rfl rtX _ rfl (by first | exact .head _) (by rfl) (by rfl) ?_)
                  | ((with_reducible show wpList _ _ _ (Oper.mk _ (Op.binOp BinOp.eql 38 _ _ 38) _ _ _ _ :: _) _ _); refine wpList_value (by first | rfl | go_simp) _ ((E.exec_eql23 rfl ⟨h1, v1, o1, g1⟩ E.EX.z rfl rfl _).trans (congrArg (fun b => Result.ok (Next.value (Value.bool b)) _) HE1.out)) ?_)
                  | ((with_reducible show wpList _ _ _ (Oper.mk _ (Op.binOp BinOp.eql 38 _ _ 38) _ _ _ _ :: _) _ _); refine wpList_value (by first | rfl | go_simp) _ ((E.exec_eql23 rfl ⟨h2, v2, o2, g2⟩ E.EX.z rfl rfl _).trans (congrArg (fun b => Result.ok (Next.value (Value.bool b)) _) HE2.out)) ?_)
                  | ((with_reducible show wpList _ _ _ (Oper.mk _ (Op.load 4 _) _ _ _ _ :: _) _ _); refine wpList_cell4 M (by rfl) _ rfl _ rfl (by first | exact .head _) rfl ?_)
                  | ((with_reducible show wpList _ _ _ (Oper.mk _ (Op.load 2 _) _ _ _ _ :: _) _ _); refine wpList_cell2 M (by rfl) _ rfl _ rfl (by first | exact .head _) rfl ?_)
                  | ((with_reducible show wpList _ _ _ (Oper.mk _ (Op.load 3 _) _ _ _ _ :: _) _ _); refine wpList_cell3 M (by rfl) _ rfl _ rfl (by first | exact .head _) rfl ?_)
                  | (go_at_call 22; refine (K0 _).mono ?_; clear K0; rintro e W2 ⟨rfl, rfl⟩)
                  | (go_at_call 15; refine (K1 _).mono ?_; clear K1; rintro e W2 ⟨rfl, b1⟩; replace M := M.later b1; clear b1)
                  | (go_at_call 15; refine (K2 _).mono ?_; clear K2; rintro e W2 ⟨rfl, b1⟩; replace M := M.later b1; clear b1))
            go_ret
            exact ⟨ret_bool HF.out.symm, M.below⟩
        | true =>
          cases hv with
          | false =>
            cases zi with
            | false =>
              have HF : Hid (R = false) := HBAD.out (HO.out.trans (by simp [okB]))
              go_wp2_with (first
                    | ((with_reducible show wpList _ _ _ (Oper.mk _ (Op.load 49 (Operand.tmp 28)) _ _ _ _ :: _) _ _); refine wpList_load35w (by rfl) _ rfl b (off + i * 16) _ _ _ _ _ _ _ _ _ _ _ _ _ _ _ _ rfl (KR _ M.below) ?_)
                    | ((with_reducible show wpList _ _ _ (Oper.mk (some 6) (Op.alloc 49) _ _ _ _ :: _) _ _); refine wpList_alloc M rfl rfl rtT ?_; clear M; intro k6 W M)
                    | ((with_reducible show wpList _ _ _ (Oper.mk _ (Op.store 49 _ _) _ _ _ _ :: _) _ _); (first | (refine wpList_put M rfl _ _ rfl rtT 0 _ rfl rfl rfl rfl rfl (by simp [Value.oneCell']) ?_)); clear M; intro W M; simp only [List.set_cons_zero, List.set_cons_succ] at M)
                    | ((with_reducible show wpList _ _ _ (Oper.mk _ (Op.load 38 (Operand.tmp 30)) _ _ _ _ :: _) _ _); refine wpList_loadp M (by rfl) _ rfl rtX _ rfl (by first | exact .head _) (by rfl) (by rfl) ?_)
                    | ((with_reducible show wpList _ _ _ (Oper.mk _ (Op.load 38 (Operand.tmp 35)) _ _ _ _ :: _) _ _); refine wpList_loadp M (by rfl) _ rfl rtX _ rfl (by first | exact .head _) (by rfl) (by rfl) ?_)
                    | ((with_reducible show wpList _ _ _ (Oper.mk _ (Op.load 38 (Operand.tmp 79)) _ _ _ _ :: _) _ _); refine wpList_loadp M (by rfl) _ rfl rtX _ rfl (by first | exact .head _) (by rfl) (by rfl) ?_)
                    | ((with_reducible show wpList _ _ _ (Oper.mk _ (Op.load 38 (Operand.tmp 85)) _ _ _ _ :: _) _ _); refine wpList_loadp M (by rfl) _ rfl rtX _ rfl (by first | exact .head _) (by rfl) (by rfl) ?_)
                    | ((with_reducible show wpList _ _ _ (Oper.mk _ (Op.binOp BinOp.eql 38 _ _ 38) _ _ _ _ :: _) _ _); refine wpList_value (by first | rfl | go_simp) _ ((E.exec_eql23 rfl ⟨h1, v1, o1, g1⟩ E.EX.z rfl rfl _).trans (congrArg (fun b => Result.ok (Next.value (Value.bool b)) _) HE1.out)) ?_)
                    | ((with_reducible show wpList _ _ _ (Oper.mk _ (Op.binOp BinOp.eql 38 _ _ 38) _ _ _ _ :: _) _ _); refine wpList_value (by first | rfl | go_simp) _ ((E.exec_eql23 rfl ⟨h2, v2, o2, g2⟩ E.EX.z rfl rfl _).trans (congrArg (fun b => Result.ok (Next.value (Value.bool b)) _) HE2.out)) ?_)
                    | ((with_reducible show wpList _ _ _ (Oper.mk _ (Op.load 4 _) _ _ _ _ :: _) _ _); refine wpList_cell4 M (by rfl) _ rfl _ rfl (by first | exact .head _) rfl ?_)
                    | ((with_reducible show wpList _ _ _ (Oper.mk _ (Op.load 2 _) _ _ _ _ :: _) _ _); refine wpList_cell2 M (by rfl) _ rfl _ rfl (by first | exact .head _) rfl ?_)
                    | ((with_reducible show wpList _ _ _ (Oper.mk _ (Op.load 3 _) _ _ _ _ :: _) _ _); refine wpList_cell3 M (by rfl) _ rfl _ rfl (by first | exact .head _) rfl ?_)
                    | (go_at_call 22; refine (K0 _).mono ?_; clear K0; rintro e W2 ⟨rfl, rfl⟩)
                    | (go_at_call 15; refine (K1 _).mono ?_; clear K1; rintro e W2 ⟨rfl, b1⟩; replace M := M.later b1; clear b1)
                    | (go_at_call 15; refine (K2 _).mono ?_; clear K2; rintro e W2 ⟨rfl, b1⟩; replace M := M.later b1; clear b1))
              go_ret
              exact ⟨ret_bool HF.out.symm, M.below⟩
            | true =>
              cases f0 with
              | false =>
                have HF : Hid (R = false) := HBAD.out (HO.out.trans (by simp [okB]))
                go_wp2_with (first
                      | ((with_reducible show wpList _ _ _ (Oper.mk _ (Op.load 49 (Operand.tmp 28)) _ _ _ _ :: _) _ _); refine wpList_load35w (by rfl) _ rfl b (off + i * 16) _ _ _ _ _ _ _ _ _ _ _ _ _ _ _ _ rfl (KR _ M.below) ?_)
                      | ((with_reducible show wpList _ _ _ (Oper.mk (some 6) (Op.alloc 49) _ _ _ _ :: _) _ _); refine wpList_alloc M rfl rfl rtT ?_; clear M; intro k6 W M)
                      | ((with_reducible show wpList _ _ _ (Oper.mk _ (Op.store 49 _ _) _ _ _ _ :: _) _ _); (first | (refine wpList_put M rfl _ _ rfl rtT 0 _ rfl rfl rfl rfl rfl (by simp [Value.oneCell']) ?_)); clear M; intro W M; simp only [List.set_cons_zero, List.set_cons_succ] at M)
                      | ((with_reducible show wpList _ _ _ (Oper.mk _ (Op.load 38 (Operand.tmp 30)) _ _ _ _ :: _) _ _); refine wpList_loadp M (by rfl) _ rfl rtX _ rfl (by first | exact .head _) (by rfl) (by rfl) ?_)
                      | ((with_reducible show wpList _ _ _ (Oper.mk _ (Op.load 38 (Operand.tmp 35)) _ _ _ _ :: _) _ _); refine wpList_loadp M (by rfl) _ rfl rtX _ rfl (by first | exact .head _) (by rfl) (by rfl) ?_)
                      | ((with_reducible show wpList _ _ _ (Oper.mk _ (Op.load 38 (Operand.tmp 79)) _ _ _ _ :: _) _ _); refine wpList_loadp M (by rfl) _ rfl rtX _ rfl (by first | exact .head _) (by rfl) (by rfl) ?_)
                      | ((with_reducible show wpList _ _ _ (Oper.mk _ (Op.load 38 (Operand.tmp 85)) _ _ _ _ :: _) _ _); refine wpList_loadp M (by rfl) _ rfl rtX _ rfl (by first | exact .head _) (by rfl) (by rfl) ?_)
                      | ((with_reducible show wpList _ _ _ (Oper.mk _ (Op.binOp BinOp.eql 38 _ _ 38) _ _ _ _ :: _) _ _); refine wpList_value (by first | rfl | go_simp) _ ((E.exec_eql23 rfl ⟨h1, v1, o1, g1⟩ E.EX.z rfl rfl _).trans (congrArg (fun b => Result.ok (Next.value (Value.bool b)) _) HE1.out)) ?_)
                      | ((with_reducible show wpList _ _ _ (Oper.mk _ (Op.binOp BinOp.eql 38 _ _ 38) _ _ _ _ :: _) _ _); refine wpList_value (by first | rfl | go_simp) _ ((E.exec_eql23 rfl ⟨h2, v2, o2, g2⟩ E.EX.z rfl rfl _).trans (congrArg (fun b => Result.ok (Next.value (Value.bool b)) _) HE2.out)) ?_)
                      | ((with_reducible show wpList _ _ _ (Oper.mk _ (Op.load 4 _) _ _ _ _ :: _) _ _); refine wpList_cell4 M (by rfl) _ rfl _ rfl (by first | exact .head _) rfl ?_)
                      | ((with_reducible show wpList _ _ _ (Oper.mk _ (Op.load 2 _) _ _ _ _ :: _) _ _); refine wpList_cell2 M (by rfl) _ rfl _ rfl (by first | exact .head _) rfl ?_)
                      | ((with_reducible show wpList _ _ _ (Oper.mk _ (Op.load 3 _) _ _ _ _ :: _) _ _); refine wpList_cell3 M (by rfl) _ rfl _ rfl (by first | exact .head _) rfl ?_)
                      | (go_at_call 22; refine (K0 _).mono ?_; clear K0; rintro e W2 ⟨rfl, rfl⟩)
                      | (go_at_call 15; refine (K1 _).mono ?_; clear K1; rintro e W2 ⟨rfl, b1⟩; replace M := M.later b1; clear b1)
                      | (go_at_call 15; refine (K2 _).mono ?_; clear K2; rintro e W2 ⟨rfl, b1⟩; replace M := M.later b1; clear b1))
                go_ret
                exact ⟨ret_bool HF.out.symm, M.below⟩
              | true =>
                cases k4 with
                | false =>
                  have HF : Hid (R = false) := HBAD.out (HO.out.trans (by simp [okB]))
                  go_wp2_with (first
                        | ((with_reducible show wpList _ _ _ (Oper.mk _ (Op.load 49 (Operand.tmp 28)) _ _ _ _ :: _) _ _); refine wpList_load35w (by rfl) _ rfl b (off + i * 16) _ _ _ _ _ _ _ _ _ _ _ _ _ _ _ _ rfl (KR _ M.below) ?_)
                        | ((with_reducible show wpList _ _ _ (Oper.mk (some 6) (Op.alloc 49) _ _ _ _ :: _) _ _); refine wpList_alloc M rfl rfl rtT ?_; clear M; intro k6 W M)
                        | ((with_reducible show wpList _ _ _ (Oper.mk _ (Op.store 49 _ _) _ _ _ _ :: _) _ _); (first | (refine wpList_put M rfl _ _ rfl rtT 0 _ rfl rfl rfl rfl rfl (by simp [Value.oneCell']) ?_)); clear M; intro W M; simp only [List.set_cons_zero, List.set_cons_succ] at M)
                        | ((with_reducible show wpList _ _ _ (Oper.mk _ (Op.load 38 (Operand.tmp 30)) _ _ _ _ :: _) _ _); refine wpList_loadp M (by rfl) _ rfl rtX _ rfl (by first | exact .head _) (by rfl) (by rfl) ?_)
                        | ((with_reducible show wpList _ _ _ (Oper.mk _ (Op.load 38 (Operand.tmp 35)) _ _ _ _ :: _) _ _); refine wpList_loadp M (by rfl) _ rfl rtX _ rfl (by first | exact .head _) (by rfl) (by rfl) ?_)
                        | ((with_reducible show wpList _ _ _ (Oper.mk _ (Op.load 38 (Operand.tmp 79)) _ _ _ _ :: _) _ _); refine wpList_loadp M (by rfl) _ rfl rtX _ rfl (by first | exact .head _) (by rfl) (by rfl) ?_)
                        | ((with_reducible show wpList _ _ _ (Oper.mk _ (Op.load 38 (Operand.tmp 85)) _ _ _ _ :: _) _ _); refine wpList_loadp M (by rfl) _ rfl rtX _ rfl (by first | exact .head _) (by rfl) (by rfl) ?_)
                        | ((with_reducible show wpList _ _ _ (Oper.mk _ (Op.binOp BinOp.eql 38 _ _ 38) _ _ _ _ :: _) _ _); refine wpList_value (by first | rfl | go_simp) _ ((E.exec_eql23 rfl ⟨h1, v1, o1, g1⟩ E.EX.z rfl rfl _).trans (congrArg (fun b => Result.ok (Next.value (Value.bool b)) _) HE1.out)) ?_)
                        | ((with_reducible show wpList _ _ _ (Oper.mk _ (Op.binOp BinOp.eql 38 _ _ 38) _ _ _ _ :: _) _ _); refine wpList_value (by first | rfl | go_simp) _ ((E.exec_eql23 rfl ⟨h2, v2, o2, g2⟩ E.EX.z rfl rfl _).trans (congrArg (fun b => Result.ok (Next.value (Value.bool b)) _) HE2.out)) ?_)
                        | ((with_reducible show wpList _ _ _ (Oper.mk _ (Op.load 4 _) _ _ _ _ :: _) _ _); refine wpList_cell4 M (by rfl) _ rfl _ rfl (by first | exact .head _) rfl ?_)
                        | ((with_reducible show wpList _ _ _ (Oper.mk _ (Op.load 2 _) _ _ _ _ :: _) _ _); refine wpList_cell2 M (by rfl) _ rfl _ rfl (by first | exact .head _) rfl ?_)
                        | ((with_reducible show wpList _ _ _ (Oper.mk _ (Op.load 3 _) _ _ _ _ :: _) _ _); refine wpList_cell3 M (by rfl) _ rfl _ rfl (by first | exact .head _) rfl ?_)
                        | (go_at_call 22; refine (K0 _).mono ?_; clear K0; rintro e W2 ⟨rfl, rfl⟩)
                        | (go_at_call 15; refine (K1 _).mono ?_; clear K1; rintro e W2 ⟨rfl, b1⟩; replace M := M.later b1; clear b1)
                        | (go_at_call 15; refine (K2 _).mono ?_; clear K2; rintro e W2 ⟨rfl, b1⟩; replace M := M.later b1; clear b1))
                  go_ret
                  exact ⟨ret_bool HF.out.symm, M.below⟩
                | true =>
                  cases f1 with
                  | false =>
                    have HF : Hid (R = false) := HBAD.out (HO.out.trans (by simp [okB]))
                    go_wp2_with (first
                          | ((with_reducible show wpList _ _ _ (Oper.mk _ (Op.load 49 (Operand.tmp 28)) _ _ _ _ :: _) _ _); refine wpList_load35w (by rfl) _ rfl b (off + i * 16) _ _ _ _ _ _ _ _ _ _ _ _ _ _ _ _ rfl (KR _ M.below) ?_)
                          | ((with_reducible show wpList _ _ _ (Oper.mk (some 6) (Op.alloc 49) _ _ _ _ :: _) _ _); refine wpList_alloc M rfl rfl rtT ?_; clear M; intro k6 W M)
                          | ((with_reducible show wpList _ _ _ (Oper.mk _ (Op.store 49 _ _) _ _ _ _ :: _) _ _); (first | (refine wpList_put M rfl _ _ rfl rtT 0 _ rfl rfl rfl rfl rfl (by simp [Value.oneCell']) ?_)); clear M; intro W M; simp only [List.set_cons_zero, List.set_cons_succ] at M)
                          | ((with_reducible show wpList _ _ _ (Oper.mk _ (Op.load 38 (Operand.tmp 30)) _ _ _ _ :: _) _ _); refine wpList_loadp M (by rfl) _ rfl rtX _ rfl (by first | exact .head _) (by rfl) (by rfl) ?_)
                          | ((with_reducible show wpList _ _ _ (Oper.mk _ (Op.load 38 (Operand.tmp 35)) _ _ _ _ :: _) _ _); refine wpList_loadp M (by rfl) _ rfl rtX _ rfl (by first | exact .head _) (by rfl) (by rfl) ?_)
                          | ((with_reducible show wpList _ _ _ (Oper.mk _ (Op.load 38 (Operand.tmp 79)) _ _ _ _ :: _) _ _); refine wpList_loadp M (by rfl) _ rfl rtX _ rfl (by first | exact .head _) (by rfl) (by rfl) ?_)
                          | ((with_reducible show wpList _ _ _ (Oper.mk _ (Op.load 38 (Operand.tmp 85)) _ _ _ _ :: _) _ _); refine wpList_loadp M (by rfl) _ rfl rtX _ rfl (by first | exact .head _) (by rfl) (by rfl) ?_)
                          | ((with_reducible show wpList _ _ _ (Oper.mk _ (Op.binOp BinOp.eql 38 _ _ 38) _ _ _ _ :: _) _ _); refine wpList_value (by first | rfl | go_simp) _ ((E.exec_eql23 rfl ⟨h1, v1, o1, g1⟩ E.EX.z rfl rfl _).trans (congrArg (fun b => Result.ok (Next.value (Value.bool b)) _) HE1.out)) ?_)
                          | ((with_reducible show wpList _ _ _ (Oper.mk _ (Op.binOp BinOp.eql 38 _ _ 38) _ _ _ _ :: _) _ _); refine wpList_value (by first | rfl | go_simp) _ ((E.exec_eql23 rfl ⟨h2, v2, o2, g2⟩ E.EX.z rfl rfl _).trans (congrArg (fun b => Result.ok (Next.value (Value.bool b)) _) HE2.out)) ?_)
                          | ((with_reducible show wpList _ _ _ (Oper.mk _ (Op.load 4 _) _ _ _ _ :: _) _ _); refine wpList_cell4 M (by rfl) _ rfl _ rfl (by first | exact .head _) rfl ?_)
                          | ((with_reducible show wpList _ _ _ (Oper.mk _ (Op.load 2 _) _ _ _ _ :: _) _ _); refine wpList_cell2 M (by rfl) _ rfl _ rfl (by first | exact .head _) rfl ?_)
                          | ((with_reducible show wpList _ _ _ (Oper.mk _ (Op.load 3 _) _ _ _ _ :: _) _ _); refine wpList_cell3 M (by rfl) _ rfl _ rfl (by first | exact .head _) rfl ?_)
                          | (go_at_call 22; refine (K0 _).mono ?_; clear K0; rintro e W2 ⟨rfl, rfl⟩)
                          | (go_at_call 15; refine (K1 _).mono ?_; clear K1; rintro e W2 ⟨rfl, b1⟩; replace M := M.later b1; clear b1)
                          | (go_at_call 15; refine (K2 _).mono ?_; clear K2; rintro e W2 ⟨rfl, b1⟩; replace M := M.later b1; clear b1))
                    go_ret
                    exact ⟨ret_bool HF.out.symm, M.below⟩
                  | true =>
                    cases f2 with
                    | false =>
                      have HF : Hid (R = false) := HBAD.out (HO.out.trans (by simp [okB]))
                      go_wp2_with (first
                            | ((with_reducible show wpList _ _ _ (Oper.mk _ (Op.load 49 (Operand.tmp 28)) _ _ _ _ :: _) _ _); refine wpList_load35w (by rfl) _ rfl b (off + i * 16) _ _ _ _ _ _ _ _ _ _ _ _ _ _ _ _ rfl (KR _ M.below) ?_)
                            | ((with_reducible show wpList _ _ _ (Oper.mk (some 6) (Op.alloc 49) _ _ _ _ :: _) _ _); refine wpList_alloc M rfl rfl rtT ?_; clear M; intro k6 W M)
                            | ((with_reducible show wpList _ _ _ (Oper.mk _ (Op.store 49 _ _) _ _ _ _ :: _) _ _); (first | (refine wpList_put M rfl _ _ rfl rtT 0 _ rfl rfl rfl rfl rfl (by simp [Value.oneCell']) ?_)); clear M; intro W M; simp only [List.set_cons_zero, List.set_cons_succ] at M)
                            | ((with_reducible show wpList _ _ _ (Oper.mk _ (Op.load 38 (Operand.tmp 30)) _ _ _ _ :: _) _ _); refine wpList_loadp M (by rfl) _ rfl rtX _ rfl (by first | exact .head _) (by rfl) (by rfl) ?_)
                            | ((with_reducible show wpList _ _ _ (Oper.mk _ (Op.load 38 (Operand.tmp 35)) _ _ _ _ :: _) _ _); refine wpList_loadp M (by rfl) _ rfl rtX _ rfl (by first | exact .head _) (by rfl) (by rfl) ?_)
                            | ((with_reducible show wpList _ _ _ (Oper.mk _ (Op.load 38 (Operand.tmp 79)) _ _ _ _ :: _) _ _); refine wpList_loadp M (by rfl) _ rfl rtX _ rfl (by first | exact .head _) (by rfl) (by rfl) ?_)
                            | ((with_reducible show wpList _ _ _ (Oper.mk _ (Op.load 38 (Operand.tmp 85)) _ _ _ _ :: _) _ _); refine wpList_loadp M (by rfl) _ rfl rtX _ rfl (by first | exact .head _) (by rfl) (by rfl) ?_)
                            | ((with_reducible show wpList _ _ _ (Oper.mk _ (Op.binOp BinOp.eql 38 _ _ 38) _ _ _ _ :: _) _ _); refine wpList_value (by first | rfl | go_simp) _ ((E.exec_eql23 rfl ⟨h1, v1, o1, g1⟩ E.EX.z rfl rfl _).trans (congrArg (fun b => Result.ok (Next.value (Value.bool b)) _) HE1.out)) ?_)
                            | ((with_reducible show wpList _ _ _ (Oper.mk _ (Op.binOp BinOp.eql 38 _ _ 38) _ _ _ _ :: _) _ _); refine wpList_value (by first | rfl | go_simp) _ ((E.exec_eql23 rfl ⟨h2, v2, o2, g2⟩ E.EX.z rfl rfl _).trans (congrArg (fun b => Result.ok (Next.value (Value.bool b)) _) HE2.out)) ?_)
                            | ((with_reducible show wpList _ _ _ (Oper.mk _ (Op.load 4 _) _ _ _ _ :: _) _ _); refine wpList_cell4 M (by rfl) _ rfl _ rfl (by first | exact .head _) rfl ?_)
                            | ((with_reducible show wpList _ _ _ (Oper.mk _ (Op.load 2 _) _ _ _ _ :: _) _ _); refine wpList_cell2 M (by rfl) _ rfl _ rfl (by first | exact .head _) rfl ?_)
                            | ((with_reducible show wpList _ _ _ (Oper.mk _ (Op.load 3 _) _ _ _ _ :: _) _ _); refine wpList_cell3 M (by rfl) _ rfl _ rfl (by first | exact .head _) rfl ?_)
                            | (go_at_call 22; refine (K0 _).mono ?_; clear K0; rintro e W2 ⟨rfl, rfl⟩)
                            | (go_at_call 15; refine (K1 _).mono ?_; clear K1; rintro e W2 ⟨rfl, b1⟩; replace M := M.later b1; clear b1)
                            | (go_at_call 15; refine (K2 _).mono ?_; clear K2; rintro e W2 ⟨rfl, b1⟩; replace M := M.later b1; clear b1))
                      go_ret
                      exact ⟨ret_bool HF.out.symm, M.below⟩
                    | true =>
                      have HV := HO.out.trans (show _ = true from by simp [okB])
                      go_wp2_with (first
                            | ((with_reducible show wpList _ _ _ (Oper.mk _ (Op.load 49 (Operand.tmp 28)) _ _ _ _ :: _) _ _); refine wpList_load35w (by rfl) _ rfl b (off + i * 16) _ _ _ _ _ _ _ _ _ _ _ _ _ _ _ _ rfl (KR _ M.below) ?_)
                            | ((with_reducible show wpList _ _ _ (Oper.mk (some 6) (Op.alloc 49) _ _ _ _ :: _) _ _); refine wpList_alloc M rfl rfl rtT ?_; clear M; intro k6 W M)
                            | ((with_reducible show wpList _ _ _ (Oper.mk _ (Op.store 49 _ _) _ _ _ _ :: _) _ _); (first | (refine wpList_put M rfl _ _ rfl rtT 0 _ rfl rfl rfl rfl rfl (by simp [Value.oneCell']) ?_)); clear M; intro W M; simp only [List.set_cons_zero, List.set_cons_succ] at M)
                            | ((with_reducible show wpList _ _ _ (Oper.mk _ (Op.load 38 (Operand.tmp 30)) _ _ _ _ :: _) _ _); refine wpList_loadp M (by rfl) _ rfl rtX _ rfl (by first | exact .head _) (by rfl) (by rfl) ?_)
                            | ((with_reducible show wpList _ _ _ (Oper.mk _ (Op.load 38 (Operand.tmp 35)) _ _ _ _ :: _) _ _); refine wpList_loadp M (by rfl) _ rfl rtX _ rfl (by first | exact .head _) (by rfl) (by rfl) ?_)
                            | ((with_reducible show wpList _ _ _ (Oper.mk _ (Op.load 38 (Operand.tmp 79)) _ _ _ _ :: _) _ _); refine wpList_loadp M (by rfl) _ rfl rtX _ rfl (by first | exact .head _) (by rfl) (by rfl) ?_)
                            | ((with_reducible show wpList _ _ _ (Oper.mk _ (Op.load 38 (Operand.tmp 85)) _ _ _ _ :: _) _ _); refine wpList_loadp M (by rfl) _ rfl rtX _ rfl (by first | exact .head _) (by rfl) (by rfl) ?_)
                            | ((with_reducible show wpList _ _ _ (Oper.mk _ (Op.binOp BinOp.eql 38 _ _ 38) _ _ _ _ :: _) _ _); refine wpList_value (by first | rfl | go_simp) _ ((E.exec_eql23 rfl ⟨h1, v1, o1, g1⟩ E.EX.z rfl rfl _).trans (congrArg (fun b => Result.ok (Next.value (Value.bool b)) _) HE1.out)) ?_)
                            | ((with_reducible show wpList _ _ _ (Oper.mk _ (Op.binOp BinOp.eql 38 _ _ 38) _ _ _ _ :: _) _ _); refine wpList_value (by first | rfl | go_simp) _ ((E.exec_eql23 rfl ⟨h2, v2, o2, g2⟩ E.EX.z rfl rfl _).trans (congrArg (fun b => Result.ok (Next.value (Value.bool b)) _) HE2.out)) ?_)
                            | ((with_reducible show wpList _ _ _ (Oper.mk _ (Op.load 4 _) _ _ _ _ :: _) _ _); refine wpList_cell4 M (by rfl) _ rfl _ rfl (by first | exact .head _) rfl ?_)
                            | ((with_reducible show wpList _ _ _ (Oper.mk _ (Op.load 2 _) _ _ _ _ :: _) _ _); refine wpList_cell2 M (by rfl) _ rfl _ rfl (by first | exact .head _) rfl ?_)
                            | ((with_reducible show wpList _ _ _ (Oper.mk _ (Op.load 3 _) _ _ _ _ :: _) _ _); refine wpList_cell3 M (by rfl) _ rfl _ rfl (by first | exact .head _) rfl ?_)
                            | (go_at_call 22; refine (K0 _).mono ?_; clear K0; rintro e W2 ⟨rfl, rfl⟩)
                            | (go_at_call 15; refine (K1 _).mono ?_; clear K1; rintro e W2 ⟨rfl, b1⟩; replace M := M.later b1; clear b1)
                            | (go_at_call 15; refine (K2 _).mono ?_; clear K2; rintro e W2 ⟨rfl, b1⟩; replace M := M.later b1; clear b1))
                      go_roundg (gk - 1)
                      case measure => have := HI.out; omega
                      case rel => exact ⟨i + 1, by first | rfl | go_num, by have := HI.out; omega, M.tail, HOKN.out HV⟩
          | true =>
            cases f0 with
            | false =>
              have HF : Hid (R = false) := HBAD.out (HO.out.trans (by simp [okB]))
              go_wp2_with (first
                    | ((with_reducible show wpList _ _ _ (Oper.mk _ (Op.load 49 (Operand.tmp 28)) _ _ _ _ :: _) _ _); refine wpList_load35w (by rfl) _ rfl b (off + i * 16) _ _ _ _ _ _ _ _ _ _ _ _ _ _ _ _ rfl (KR _ M.below) ?_)
                    | ((with_reducible show wpList _ _ _ (Oper.mk (some 6) (Op.alloc 49) _ _ _ _ :: _) _ _); refine wpList_alloc M rfl rfl rtT ?_; clear M; intro k6 W M)
                    | ((with_reducible show wpList _ _ _ (Oper.mk _ (Op.store 49 _ _) _ _ _ _ :: _) _ _); (first | (refine wpList_put M rfl _ _ rfl rtT 0 _ rfl rfl rfl rfl rfl (by simp [Value.oneCell']) ?_)); clear M; intro W M; simp only [List.set_cons_zero, List.set_cons_succ] at M)
                    | ((with_reducible show wpList _ _ _ (Oper.mk _ (Op.load 38 (Operand.tmp 30)) _ _ _ _ :: _) _ _); refine wpList_loadp M (by rfl) _ rfl rtX _ rfl (by first | exact .head _) (by rfl) (by rfl) ?_)
                    | ((with_reducible show wpList _ _ _ (Oper.mk _ (Op.load 38 (Operand.tmp 35)) _ _ _ _ :: _) _ _); refine wpList_loadp M (by rfl) _ rfl rtX _ rfl (by first | exact .head _) (by rfl) (by rfl) ?_)
                    | ((with_reducible show wpList _ _ _ (Oper.mk _ (Op.load 38 (Operand.tmp 79)) _ _ _ _ :: _) _ _); refine wpList_loadp M (by rfl) _ rfl rtX _ rfl (by first | exact .head _) (by rfl) (by rfl) ?_)
                    | ((with_reducible show wpList _ _ _ (Oper.mk _ (Op.load 38 (Operand.tmp 85)) _ _ _ _ :: _) _ _); refine wpList_loadp M (by rfl) _ rfl rtX _ rfl (by first | exact .head _) (by rfl) (by rfl) ?_)
                    | ((with_reducible show wpList _ _ _ (Oper.mk _ (Op.binOp BinOp.eql 38 _ _ 38) _ _ _ _ :: _) _ _); refine wpList_value (by first | rfl | go_simp) _ ((E.exec_eql23 rfl ⟨h1, v1, o1, g1⟩ E.EX.z rfl rfl _).trans (congrArg (fun b => Result.ok (Next.value (Value.bool b)) _) HE1.out)) ?_)
                    | ((with_reducible show wpList _ _ _ (Oper.mk _ (Op.binOp BinOp.eql 38 _ _ 38) _ _ _ _ :: _) _ _); refine wpList_value (by first | rfl | go_simp) _ ((E.exec_eql23 rfl ⟨h2, v2, o2, g2⟩ E.EX.z rfl rfl _).trans (congrArg (fun b => Result.ok (Next.value (Value.bool b)) _) HE2.out)) ?_)
                    | ((with_reducible show wpList _ _ _ (Oper.mk _ (Op.load 4 _) _ _ _ _ :: _) _ _); refine wpList_cell4 M (by rfl) _ rfl _ rfl (by first | exact .head _) rfl ?_)
                    | ((with_reducible show wpList _ _ _ (Oper.mk _ (Op.load 2 _) _ _ _ _ :: _) _ _); refine wpList_cell2 M (by rfl) _ rfl _ rfl (by first | exact .head _) rfl ?_)
                    | ((with_reducible show wpList _ _ _ (Oper.mk _ (Op.load 3 _) _ _ _ _ :: _) _ _); refine wpList_cell3 M (by rfl) _ rfl _ rfl (by first | exact .head _) rfl ?_)
                    | (go_at_call 22; refine (K0 _).mono ?_; clear K0; rintro e W2 ⟨rfl, rfl⟩)
                    | (go_at_call 15; refine (K1 _).mono ?_; clear K1; rintro e W2 ⟨rfl, b1⟩; replace M := M.later b1; clear b1)
                    | (go_at_call 15; refine (K2 _).mono ?_; clear K2; rintro e W2 ⟨rfl, b1⟩; replace M := M.later b1; clear b1))
              go_ret
              exact ⟨ret_bool HF.out.symm, M.below⟩
            | true =>
              cases k4 with
              | false =>
                have HF : Hid (R = false) := HBAD.out (HO.out.trans (by simp [okB]))
                go_wp2_with (first
                      | ((with_reducible show wpList _ _ _ (Oper.mk _ (Op.load 49 (Operand.tmp 28)) _ _ _ _ :: _) _ _); refine wpList_load35w (by rfl) _ rfl b (off + i * 16) _ _ _ _ _ _ _ _ _ _ _ _ _ _ _ _ rfl (KR _ M.below) ?_)
                      | ((with_reducible show wpList _ _ _ (Oper.mk (some 6) (Op.alloc 49) _ _ _ _ :: _) _ _); refine wpList_alloc M rfl rfl rtT ?_; clear M; intro k6 W M)
                      | ((with_reducible show wpList _ _ _ (Oper.mk _ (Op.store 49 _ _) _ _ _ _ :: _) _ _); (first | (refine wpList_put M rfl _ _ rfl rtT 0 _ rfl rfl rfl rfl rfl (by simp [Value.oneCell']) ?_)); clear M; intro W M; simp only [List.set_cons_zero, List.set_cons_succ] at M)
                      | ((with_reducible show wpList _ _ _ (Oper.mk _ (Op.load 38 (Operand.tmp 30)) _ _ _ _ :: _) _ _); refine wpList_loadp M (by rfl) _ rfl rtX _ rfl (by first | exact .head _) (by rfl) (by rfl) ?_)
                      | ((with_reducible show wpList _ _ _ (Oper.mk _ (Op.load 38 (Operand.tmp 35)) _ _ _ _ :: _) _ _); refine wpList_loadp M (by rfl) _ rfl rtX _ rfl (by first | exact .head _) (by rfl) (by rfl) ?_)
                      | ((with_reducible show wpList _ _ _ (Oper.mk _ (Op.load 38 (Operand.tmp 79)) _ _ _ _ :: _) _ _); refine wpList_loadp M (by rfl) _ rfl rtX _ rfl (by first | exact .head _) (by rfl) (by rfl) ?_)
                      | ((with_reducible show wpList _ _ _ (Oper.mk _ (Op.load 38 (Operand.tmp 85)) _ _ _ _ :: _) _ _); refine wpList_loadp M (by rfl) _ rfl rtX _ rfl (by first | exact .head _) (by rfl) (by rfl) ?_)
                      | ((with_reducible show wpList _ _ _ (Oper.mk _ (Op.binOp BinOp.eql 38 _ _ 38) _ _ _ _ :: _) _ _); refine wpList_value (by first | rfl | go_simp) _ ((E.exec_eql23 rfl ⟨h1, v1, o1, g1⟩ E.EX.z rfl rfl _).trans (congrArg (fun b => Result.ok (Next.value (Value.bool b)) _) HE1.out)) ?_)
                      | ((with_reducible show wpList _ _ _ (Oper.mk _ (Op.binOp BinOp.eql 38 _ _ 38) _ _ _ _ :: _) _ _); refine wpList_value (by first | rfl | go_simp) _ ((E.exec_eql23 rfl ⟨h2, v2, o2, g2⟩ E.EX.z rfl rfl _).trans (congrArg (fun b => Result.ok (Next.value (Value.bool b)) _) HE2.out)) ?_)
                      | ((with_reducible show wpList _ _ _ (Oper.mk _ (Op.load 4 _) _ _ _ _ :: _) _ _); refine wpList_cell4 M (by rfl) _ rfl _ rfl (by first | exact .head _) rfl ?_)
                      | ((with_reducible show wpList _ _ _ (Oper.mk _ (Op.load 2 _) _ _ _ _ :: _) _ _); refine wpList_cell2 M (by rfl) _ rfl _ rfl (by first | exact .head _) rfl ?_)
                      | ((with_reducible show wpList _ _ _ (Oper.mk _ (Op.load 3 _) _ _ _ _ :: _) _ _); refine wpList_cell3 M (by rfl) _ rfl _ rfl (by first | exact .head _) rfl ?_)
                      | (go_at_call 22; refine (K0 _).mono ?_; clear K0; rintro e W2 ⟨rfl, rfl⟩)
                      | (go_at_call 15; refine (K1 _).mono ?_; clear K1; rintro e W2 ⟨rfl, b1⟩; replace M := M.later b1; clear b1)
                      | (go_at_call 15; refine (K2 _).mono ?_; clear K2; rintro e W2 ⟨rfl, b1⟩; replace M := M.later b1; clear b1))
                go_ret
                exact ⟨ret_bool HF.out.symm, M.below⟩
              | true =>
                cases f1 with
                | false =>
                  have HF : Hid (R = false) := HBAD.out (HO.out.trans (by simp [okB]))
                  go_wp2_with (first
                        | ((with_reducible show wpList _ _ _ (Oper.mk _ (Op.load 49 (Operand.tmp 28)) _ _ _ _ :: _) _ _); refine wpList_load35w (by rfl) _ rfl b (off + i * 16) _ _ _ _ _ _ _ _ _ _ _ _ _ _ _ _ rfl (KR _ M.below) ?_)
                        | ((with_reducible show wpList _ _ _ (Oper.mk (some 6) (Op.alloc 49) _ _ _ _ :: _) _ _); refine wpList_alloc M rfl rfl rtT ?_; clear M; intro k6 W M)
                        | ((with_reducible show wpList _ _ _ (Oper.mk _ (Op.store 49 _ _) _ _ _ _ :: _) _ _); (first | (refine wpList_put M rfl _ _ rfl rtT 0 _ rfl rfl rfl rfl rfl (by simp [Value.oneCell']) ?_)); clear M; intro W M; simp only [List.set_cons_zero, List.set_cons_succ] at M)
                        | ((with_reducible show wpList _ _ _ (Oper.mk _ (Op.load 38 (Operand.tmp 30)) _ _ _ _ :: _) _ _); refine wpList_loadp M (by rfl) _ rfl rtX _ rfl (by first | exact .head _) (by rfl) (by rfl) ?_)
                        | ((with_reducible show wpList _ _ _ (Oper.mk _ (Op.load 38 (Operand.tmp 35)) _ _ _ _ :: _) _ _); refine wpList_loadp M (by rfl) _ rfl rtX _ rfl (by first | exact .head _) (by rfl) (by rfl) ?_)
                        | ((with_reducible show wpList _ _ _ (Oper.mk _ (Op.load 38 (Operand.tmp 79)) _ _ _ _ :: _) _ _); refine wpList_loadp M (by rfl) _ rfl rtX _ rfl (by first | exact .head _) (by rfl) (by rfl) ?_)
                        | ((with_reducible show wpList _ _ _ (Oper.mk _ (Op.load 38 (Operand.tmp 85)) _ _ _ _ :: _) _ _); refine wpList_loadp M (by rfl) _ rfl rtX _ rfl (by first | exact .head _) (by rfl) (by rfl) ?_)
                        | ((with_reducible show wpList _ _ _ (Oper.mk _ (Op.binOp BinOp.eql 38 _ _ 38) _ _ _ _ :: _) _ _); refine wpList_value (by first | rfl | go_simp) _ ((E.exec_eql23 rfl ⟨h1, v1, o1, g1⟩ E.EX.z rfl rfl _).trans (congrArg (fun b => Result.ok (Next.value (Value.bool b)) _) HE1.out)) ?_)
                        | ((with_reducible show wpList _ _ _ (Oper.mk _ (Op.binOp BinOp.eql 38 _ _ 38) _ _ _ _ :: _) _ _); refine wpList_value (by first | rfl | go_simp) _ ((E.exec_eql23 rfl ⟨h2, v2, o2, g2⟩ E.EX.z rfl rfl _).trans (congrArg (fun b => Result.ok (Next.value (Value.bool b)) _) HE2.out)) ?_)
                        | ((with_reducible show wpList _ _ _ (Oper.mk _ (Op.load 4 _) _ _ _ _ :: _) _ _); refine wpList_cell4 M (by rfl) _ rfl _ rfl (by first | exact .head _) rfl ?_)
                        | ((with_reducible show wpList _ _ _ (Oper.mk _ (Op.load 2 _) _ _ _ _ :: _) _ _); refine wpList_cell2 M (by rfl) _ rfl _ rfl (by first | exact .head _) rfl ?_)
                        | ((with_reducible show wpList _ _ _ (Oper.mk _ (Op.load 3 _) _ _ _ _ :: _) _ _); refine wpList_cell3 M (by rfl) _ rfl _ rfl (by first | exact .head _) rfl ?_)
                        | (go_at_call 22; refine (K0 _).mono ?_; clear K0; rintro e W2 ⟨rfl, rfl⟩)
                        | (go_at_call 15; refine (K1 _).mono ?_; clear K1; rintro e W2 ⟨rfl, b1⟩; replace M := M.later b1; clear b1)
                        | (go_at_call 15; refine (K2 _).mono ?_; clear K2; rintro e W2 ⟨rfl, b1⟩; replace M := M.later b1; clear b1))
                  go_ret
                  exact ⟨ret_bool HF.out.symm, M.below⟩
                | true =>
                  cases f2 with
                  | false =>
                    have HF : Hid (R = false) := HBAD.out (HO.out.trans (by simp [okB]))
                    go_wp2_with (first
                          | ((with_reducible show wpList _ _ _ (Oper.mk _ (Op.load 49 (Operand.tmp 28)) _ _ _ _ :: _) _ _); refine wpList_load35w (by rfl) _ rfl b (off + i * 16) _ _ _ _ _ _ _ _ _ _ _ _ _ _ _ _ rfl (KR _ M.below) ?_)
                          | ((with_reducible show wpList _ _ _ (Oper.mk (some 6) (Op.alloc 49) _ _ _ _ :: _) _ _); refine wpList_alloc M rfl rfl rtT ?_; clear M; intro k6 W M)
                          | ((with_reducible show wpList _ _ _ (Oper.mk _ (Op.store 49 _ _) _ _ _ _ :: _) _ _); (first | (refine wpList_put M rfl _ _ rfl rtT 0 _ rfl rfl rfl rfl rfl (by simp [Value.oneCell']) ?_)); clear M; intro W M; simp only [List.set_cons_zero, List.set_cons_succ] at M)
                          | ((with_reducible show wpList _ _ _ (Oper.mk _ (Op.load 38 (Operand.tmp 30)) _ _ _ _ :: _) _ _); refine wpList_loadp M (by rfl) _ rfl rtX _ rfl (by first | exact .head _) (by rfl) (by rfl) ?_)
                          | ((with_reducible show wpList _ _ _ (Oper.mk _ (Op.load 38 (Operand.tmp 35)) _ _ _ _ :: _) _ _); refine wpList_loadp M (by rfl) _ rfl rtX _ rfl (by first | exact .head _) (by rfl) (by rfl) ?_)
                          | ((with_reducible show wpList _ _ _ (Oper.mk _ (Op.load 38 (Operand.tmp 79)) _ _ _ _ :: _) _ _); refine wpList_loadp M (by rfl) _ rfl rtX _ rfl (by first | exact .head _) (by rfl) (by rfl) ?_)
                          | ((with_reducible show wpList _ _ _ (Oper.mk _ (Op.load 38 (Operand.tmp 85)) _ _ _ _ :: _) _ _); refine wpList_loadp M (by rfl) _ rfl rtX _ rfl (by first | exact .head _) (by rfl) (by rfl) ?_)
                          | ((with_reducible show wpList _ _ _ (Oper.mk _ (Op.binOp BinOp.eql 38 _ _ 38) _ _ _ _ :: _) _ _); refine wpList_value (by first | rfl | go_simp) _ ((E.exec_eql23 rfl ⟨h1, v1, o1, g1⟩ E.EX.z rfl rfl _).trans (congrArg (fun b => Result.ok (Next.value (Value.bool b)) _) HE1.out)) ?_)
                          | ((with_reducible show wpList _ _ _ (Oper.mk _ (Op.binOp BinOp.eql 38 _ _ 38) _ _ _ _ :: _) _ _); refine wpList_value (by first | rfl | go_simp) _ ((E.exec_eql23 rfl ⟨h2, v2, o2, g2⟩ E.EX.z rfl rfl _).trans (congrArg (fun b => Result.ok (Next.value (Value.bool b)) _) HE2.out)) ?_)
                          | ((with_reducible show wpList _ _ _ (Oper.mk _ (Op.load 4 _) _ _ _ _ :: _) _ _); refine wpList_cell4 M (by rfl) _ rfl _ rfl (by first | exact .head _) rfl ?_)
                          | ((with_reducible show wpList _ _ _ (Oper.mk _ (Op.load 2 _) _ _ _ _ :: _) _ _); refine wpList_cell2 M (by rfl) _ rfl _ rfl (by first | exact .head _) rfl ?_)
                          | ((with_reducible show wpList _ _ _ (Oper.mk _ (Op.load 3 _) _ _ _ _ :: _) _ _); refine wpList_cell3 M (by rfl) _ rfl _ rfl (by first | exact .head _) rfl ?_)
                          | (go_at_call 22; refine (K0 _).mono ?_; clear K0; rintro e W2 ⟨rfl, rfl⟩)
                          | (go_at_call 15; refine (K1 _).mono ?_; clear K1; rintro e W2 ⟨rfl, b1⟩; replace M := M.later b1; clear b1)
                          | (go_at_call 15; refine (K2 _).mono ?_; clear K2; rintro e W2 ⟨rfl, b1⟩; replace M := M.later b1; clear b1))
                    go_ret
                    exact ⟨ret_bool HF.out.symm, M.below⟩
                  | true =>
                    have HV := HO.out.trans (show _ = true from by simp [okB])
                    go_wp2_with (first
                          | ((with_reducible show wpList _ _ _ (Oper.mk _ (Op.load 49 (Operand.tmp 28)) _ _ _ _ :: _) _ _); refine wpList_load35w (by rfl) _ rfl b (off + i * 16) _ _ _ _ _ _ _ _ _ _ _ _ _ _ _ _ rfl (KR _ M.below) ?_)
                          | ((with_reducible show wpList _ _ _ (Oper.mk (some 6) (Op.alloc 49) _ _ _ _ :: _) _ _); refine wpList_alloc M rfl rfl rtT ?_; clear M; intro k6 W M)
                          | ((with_reducible show wpList _ _ _ (Oper.mk _ (Op.store 49 _ _) _ _ _ _ :: _) _ _); (first | (refine wpList_put M rfl _ _ rfl rtT 0 _ rfl rfl rfl rfl rfl (by simp [Value.oneCell']) ?_)); clear M; intro W M; simp only [List.set_cons_zero, List.set_cons_succ] at M)
                          | ((with_reducible show wpList _ _ _ (Oper.mk _ (Op.load 38 (Operand.tmp 30)) _ _ _ _ :: _) _ _); refine wpList_loadp M (by rfl) _ rfl rtX _ rfl (by first | exact .head _) (by rfl) (by rfl) ?_)
                          | ((with_reducible show wpList _ _ _ (Oper.mk _ (Op.load 38 (Operand.tmp 35)) _ _ _ _ :: _) _ _); refine wpList_loadp M (by rfl) _ rfl rtX _ rfl (by first | exact .head _) (by rfl) (by rfl) ?_)
                          | ((with_reducible show wpList _ _ _ (Oper.mk _ (Op.load 38 (Operand.tmp 79)) _ _ _ _ :: _) _ _); refine wpList_loadp M (by rfl) _ rfl rtX _ rfl (by first | exact .head _) (by rfl) (by rfl) ?_)
                          | ((with_reducible show wpList _ _ _ (Oper.mk _ (Op.load 38 (Operand.tmp 85)) _ _ _ _ :: _) _ _); refine wpList_loadp M (by rfl) _ rfl rtX _ rfl (by first | exact .head _) (by rfl) (by rfl) ?_)
                          | ((with_reducible show wpList _ _ _ (Oper.mk _ (Op.binOp BinOp.eql 38 _ _ 38) _ _ _ _ :: _) _ _); refine wpList_value (by first | rfl | go_simp) _ ((E.exec_eql23 rfl ⟨h1, v1, o1, g1⟩ E.EX.z rfl rfl _).trans (congrArg (fun b => Result.ok (Next.value (Value.bool b)) _) HE1.out)) ?_)
                          | ((with_reducible show wpList _ _ _ (Oper.mk _ (Op.binOp BinOp.eql 38 _ _ 38) _ _ _ _ :: _) _ _); refine wpList_value (by first | rfl | go_simp) _ ((E.exec_eql23 rfl ⟨h2, v2, o2, g2⟩ E.EX.z rfl rfl _).trans (congrArg (fun b => Result.ok (Next.value (Value.bool b)) _) HE2.out)) ?_)
                          | ((with_reducible show wpList _ _ _ (Oper.mk _ (Op.load 4 _) _ _ _ _ :: _) _ _); refine wpList_cell4 M (by rfl) _ rfl _ rfl (by first | exact .head _) rfl ?_)
                          | ((with_reducible show wpList _ _ _ (Oper.mk _ (Op.load 2 _) _ _ _ _ :: _) _ _); refine wpList_cell2 M (by rfl) _ rfl _ rfl (by first | exact .head _) rfl ?_)
                          | ((with_reducible show wpList _ _ _ (Oper.mk _ (Op.load 3 _) _ _ _ _ :: _) _ _); refine wpList_cell3 M (by rfl) _ rfl _ rfl (by first | exact .head _) rfl ?_)
                          | (go_at_call 22; refine (K0 _).mono ?_; clear K0; rintro e W2 ⟨rfl, rfl⟩)
                          | (go_at_call 15; refine (K1 _).mono ?_; clear K1; rintro e W2 ⟨rfl, b1⟩; replace M := M.later b1; clear b1)
                          | (go_at_call 15; refine (K2 _).mono ?_; clear K2; rintro e W2 ⟨rfl, b1⟩; replace M := M.later b1; clear b1))
                    go_roundg (gk - 1)
                    case measure => have := HI.out; omega
                    case rel => exact ⟨i + 1, by first | rfl | go_num, by have := HI.out; omega, M.tail, HOKN.out HV⟩
      | true =>
        cases e2 with
        | false =>
          cases al with
          | false =>
            cases hv with
            | false =>
              have HF : Hid (R = false) := HBAD.out (HO.out.trans (by simp [okB]))
              go_wp2_with (first
                    | ((with_reducible show wpList _ _ _ (Oper.mk _ (Op.load 49 (Operand.tmp 28)) _ _ _ _ :: _) _ _); refine wpList_load35w (by rfl) _ rfl b (off + i * 16) _ _ _ _ _ _ _ _ _ _ _ _ _ _ _ _ rfl (KR _ M.below) ?_)
                    | ((with_reducible show wpList _ _ _ (Oper.mk (some 6) (Op.alloc 49) _ _ _ _ :: _) _ _); refine wpList_alloc M rfl rfl rtT ?_; clear M; intro k6 W M)
                    | ((with_reducible show wpList _ _ _ (Oper.mk _ (Op.store 49 _ _) _ _ _ _ :: _) _ _); (first | (refine wpList_put M rfl _ _ rfl rtT 0 _ rfl rfl rfl rfl rfl (by simp [Value.oneCell']) ?_)); clear M; intro W M; simp only [List.set_cons_zero, List.set_cons_succ] at M)
                    | ((with_reducible show wpList _ _ _ (Oper.mk _ (Op.load 38 (Operand.tmp 30)) _ _ _ _ :: _) _ _); refine wpList_loadp M (by rfl) _ rfl rtX _ rfl (by first | exact .head _) (by rfl) (by rfl) ?_)
                    | ((with_reducible show wpList _ _ _ (Oper.mk _ (Op.load 38 (Operand.tmp 35)) _ _ _ _ :: _) _ _); refine wpList_loadp M (by rfl) _ rfl rtX _ rfl (by first | exact .head _) (by rfl) (by rfl) ?_)
                    | ((with_reducible show wpList _ _ _ (Oper.mk _ (Op.load 38 (Operand.tmp 79)) _ _ _ _ :: _) _ _); refine wpList_loadp M (by rfl) _ rfl rtX _ rfl (by first | exact .head _) (by rfl) (by rfl) ?_)
                    | ((with_reducible show wpList _ _ _ (Oper.mk _ (Op.load 38 (Operand.tmp 85)) _ _ _ _ :: _) _ _); refine wpList_loadp M (by rfl) _ rfl rtX _ rfl (by first | exact .head _) (by rfl) (by rfl) ?_)
                    | ((with_reducible show wpList _ _ _ (Oper.mk _ (Op.binOp BinOp.eql 38 _ _ 38) _ _ _ _ :: _) _ _); refine wpList_value (by first | rfl | go_simp) _ ((E.exec_eql23 rfl ⟨h1, v1, o1, g1⟩ E.EX.z rfl rfl _).trans (congrArg (fun b => Result.ok (Next.value (Value.bool b)) _) HE1.out)) ?_)
                    | ((with_reducible show wpList _ _ _ (Oper.mk _ (Op.binOp BinOp.eql 38 _ _ 38) _ _ _ _ :: _) _ _); refine wpList_value (by first | rfl | go_simp) _ ((E.exec_eql23 rfl ⟨h2, v2, o2, g2⟩ E.EX.z rfl rfl _).trans (congrArg (fun b => Result.ok (Next.value (Value.bool b)) _) HE2.out)) ?_)
                    | ((with_reducible show wpList _ _ _ (Oper.mk _ (Op.load 4 _) _ _ _ _ :: _) _ _); refine wpList_cell4 M (by rfl) _ rfl _ rfl (by first | exact .head _) rfl ?_)
                    | ((with_reducible show wpList _ _ _ (Oper.mk _ (Op.load 2 _) _ _ _ _ :: _) _ _); refine wpList_cell2 M (by rfl) _ rfl _ rfl (by first | exact .head _) rfl ?_)
                    | ((with_reducible show wpList _ _ _ (Oper.mk _ (Op.load 3 _) _ _ _ _ :: _) _ _); refine wpList_cell3 M (by rfl) _ rfl _ rfl (by first | exact .head _) rfl ?_)
                    | (go_at_call 22; refine (K0 _).mono ?_; clear K0; rintro e W2 ⟨rfl, rfl⟩)
                    | (go_at_call 15; refine (K1 _).mono ?_; clear K1; rintro e W2 ⟨rfl, b1⟩; replace M := M.later b1; clear b1)
                    | (go_at_call 15; refine (K2 _).mono ?_; clear K2; rintro e W2 ⟨rfl, b1⟩; replace M := M.later b1; clear b1))
              go_ret
              exact ⟨ret_bool HF.out.symm, M.below⟩
            | true =>
              have HF : Hid (R = false) := HBAD.out (HO.out.trans (by simp [okB]))
              go_wp2_with (first
                    | ((with_reducible show wpList _ _ _ (Oper.mk _ (Op.load 49 (Operand.tmp 28)) _ _ _ _ :: _) _ _); refine wpList_load35w (by rfl) _ rfl b (off + i * 16) _ _ _ _ _ _ _ _ _ _ _ _ _ _ _ _ rfl (KR _ M.below) ?_)
                    | ((with_reducible show wpList _ _ _ (Oper.mk (some 6) (Op.alloc 49) _ _ _ _ :: _) _ _); refine wpList_alloc M rfl rfl rtT ?_; clear M; intro k6 W M)
                    | ((with_reducible show wpList _ _ _ (Oper.mk _ (Op.store 49 _ _) _ _ _ _ :: _) _ _); (first | (refine wpList_put M rfl _ _ rfl rtT 0 _ rfl rfl rfl rfl rfl (by simp [Value.oneCell']) ?_)); clear M; intro W M; simp only [List.set_cons_zero, List.set_cons_succ] at M)
                    | ((with_reducible show wpList _ _ _ (Oper.mk _ (Op.load 38 (Operand.tmp 30)) _ _ _ _ :: _) _ _); refine wpList_loadp M (by rfl) _ rfl rtX _ rfl (by first | exact .head _) (by rfl) (by rfl) ?_)
                    | ((with_reducible show wpList _ _ _ (Oper.mk _ (Op.load 38 (Operand.tmp 35)) _ _ _ _ :: _) _ _); refine wpList_loadp M (by rfl) _ rfl rtX _ rfl (by first | exact .head _) (by rfl) (by rfl) ?_)
                    | ((with_reducible show wpList _ _ _ (Oper.mk _ (Op.load 38 (Operand.tmp 79)) _ _ _ _ :: _) _ _); refine wpList_loadp M (by rfl) _ rfl rtX _ rfl (by first | exact .head _) (by rfl) (by rfl) ?_)
                    | ((with_reducible show wpList _ _ _ (Oper.mk _ (Op.load 38 (Operand.tmp 85)) _ _ _ _ :: _) _ _); refine wpList_loadp M (by rfl) _ rfl rtX _ rfl (by first | exact .head _) (by rfl) (by rfl) ?_)
                    | ((with_reducible show wpList _ _ _ (Oper.mk _ (Op.binOp BinOp.eql 38 _ _ 38) _ _ _ _ :: _) _ _); refine wpList_value (by first | rfl | go_simp) _ ((E.exec_eql23 rfl ⟨h1, v1, o1, g1⟩ E.EX.z rfl rfl _).trans (congrArg (fun b => Result.ok (Next.value (Value.bool b)) _) HE1.out)) ?_)
                    | ((with_reducible show wpList _ _ _ (Oper.mk _ (Op.binOp BinOp.eql 38 _ _ 38) _ _ _ _ :: _) _ _); refine wpList_value (by first | rfl | go_simp) _ ((E.exec_eql23 rfl ⟨h2, v2, o2, g2⟩ E.EX.z rfl rfl _).trans (congrArg (fun b => Result.ok (Next.value (Value.bool b)) _) HE2.out)) ?_)
                    | ((with_reducible show wpList _ _ _ (Oper.mk _ (Op.load 4 _) _ _ _ _ :: _) _ _); refine wpList_cell4 M (by rfl) _ rfl _ rfl (by first | exact .head _) rfl ?_)
                    | ((with_reducible show wpList _ _ _ (Oper.mk _ (Op.load 2 _) _ _ _ _ :: _) _ _); refine wpList_cell2 M (by rfl) _ rfl _ rfl (by first | exact .head _) rfl ?_)
                    | ((with_reducible show wpList _ _ _ (Oper.mk _ (Op.load 3 _) _ _ _ _ :: _) _ _); refine wpList_cell3 M (by rfl) _ rfl _ rfl (by first | exact .head _) rfl ?_)
                    | (go_at_call 22; refine (K0 _).mono ?_; clear K0; rintro e W2 ⟨rfl, rfl⟩)
                    | (go_at_call 15; refine (K1 _).mono ?_; clear K1; rintro e W2 ⟨rfl, b1⟩; replace M := M.later b1; clear b1)
                    | (go_at_call 15; refine (K2 _).mono ?_; clear K2; rintro e W2 ⟨rfl, b1⟩; replace M := M.later b1; clear b1))
              go_ret
              exact ⟨ret_bool HF.out.symm, M.below⟩
          | true =>
            cases hv with
            | false =>
              cases zi with
              | false =>
                have HF : Hid (R = false) := HBAD.out (HO.out.trans (by simp [okB]))
                go_wp2_with (first
                      | ((with_reducible show wpList _ _ _ (Oper.mk _ (Op.load 49 (Operand.tmp 28)) _ _ _ _ :: _) _ _); refine wpList_load35w (by rfl) _ rfl b (off + i * 16) _ _ _ _ _ _ _ _ _ _ _ _ _ _ _ _ rfl (KR _ M.below) ?_)
                      | ((with_reducible show wpList _ _ _ (Oper.mk (some 6) (Op.alloc 49) _ _ _ _ :: _) _ _); refine wpList_alloc M rfl rfl rtT ?_; clear M; intro k6 W M)
                      | ((with_reducible show wpList _ _ _ (Oper.mk _ (Op.store 49 _ _) _ _ _ _ :: _) _ _); (first | (refine wpList_put M rfl _ _ rfl rtT 0 _ rfl rfl rfl rfl rfl (by simp [Value.oneCell']) ?_)); clear M; intro W M; simp only [List.set_cons_zero, List.set_cons_succ] at M)
                      | ((with_reducible show wpList _ _ _ (Oper.mk _ (Op.load 38 (Operand.tmp 30)) _ _ _ _ :: _) _ _); refine wpList_loadp M (by rfl) _ rfl rtX _ rfl (by first | exact .head _) (by rfl) (by rfl) ?_)
                      | ((with_reducible show wpList _ _ _ (Oper.mk _ (Op.load 38 (Operand.tmp 35)) _ _ _ _ :: _) _ _); refine wpList_loadp M (by rfl) _ rfl rtX _ rfl (by first | exact .head _) (by rfl) (by rfl) ?_)
                      | ((with_reducible show wpList _ _ _ (Oper.mk _ (Op.load 38 (Operand.tmp 79)) _ _ _ _ :: _) _ _); refine wpList_loadp M (by rfl) _ rfl rtX _ rfl (by first | exact .head _) (by rfl) (by rfl) ?_)
                      | ((with_reducible show wpList _ _ _ (Oper.mk _ (Op.load 38 (Operand.tmp 85)) _ _ _ _ :: _) _ _); refine wpList_loadp M (by rfl) _ rfl rtX _ rfl (by first | exact .head _) (by rfl) (by rfl) ?_)
                      | ((with_reducible show wpList _ _ _ (Oper.mk _ (Op.binOp BinOp.eql 38 _ _ 38) _ _ _ _ :: _) _ _); refine wpList_value (by first | rfl | go_simp) _ ((E.exec_eql23 rfl ⟨h1, v1, o1, g1⟩ E.EX.z rfl rfl _).trans (congrArg (fun b => Result.ok (Next.value (Value.bool b)) _) HE1.out)) ?_)
                      | ((with_reducible show wpList _ _ _ (Oper.mk _ (Op.binOp BinOp.eql 38 _ _ 38) _ _ _ _ :: _) _ _); refine wpList_value (by first | rfl | go_simp) _ ((E.exec_eql23 rfl ⟨h2, v2, o2, g2⟩ E.EX.z rfl rfl _).trans (congrArg (fun b => Result.ok (Next.value (Value.bool b)) _) HE2.out)) ?_)
                      | ((with_reducible show wpList _ _ _ (Oper.mk _ (Op.load 4 _) _ _ _ _ :: _) _ _); refine wpList_cell4 M (by rfl) _ rfl _ rfl (by first | exact .head _) rfl ?_)
                      | ((with_reducible show wpList _ _ _ (Oper.mk _ (Op.load 2 _) _ _ _ _ :: _) _ _); refine wpList_cell2 M (by rfl) _ rfl _ rfl (by first | exact .head _) rfl ?_)
                      | ((with_reducible show wpList _ _ _ (Oper.mk _ (Op.load 3 _) _ _ _ _ :: _) _ _); refine wpList_cell3 M (by rfl) _ rfl _ rfl (by first | exact .head _) rfl ?_)
                      | (go_at_call 22; refine (K0 _).mono ?_; clear K0; rintro e W2 ⟨rfl, rfl⟩)
                      | (go_at_call 15; refine (K1 _).mono ?_; clear K1; rintro e W2 ⟨rfl, b1⟩; replace M := M.later b1; clear b1)
                      | (go_at_call 15; refine (K2 _).mono ?_; clear K2; rintro e W2 ⟨rfl, b1⟩; replace M := M.later b1; clear b1))
                go_ret
                exact ⟨ret_bool HF.out.symm, M.below⟩
              | true =>
                cases f0 with
                | false =>
                  have HF : Hid (R = false) := HBAD.out (HO.out.trans (by simp [okB]))
                  go_wp2_with (first
                        | ((with_reducible show wpList _ _ _ (Oper.mk _ (Op.load 49 (Operand.tmp 28)) _ _ _ _ :: _) _ _); refine wpList_load35w (by rfl) _ rfl b (off + i * 16) _ _ _ _ _ _ _ _ _ _ _ _ _ _ _ _ rfl (KR _ M.below) ?_)
                        | ((with_reducible show wpList _ _ _ (Oper.mk (some 6) (Op.alloc 49) _ _ _ _ :: _) _ _); refine wpList_alloc M rfl rfl rtT ?_; clear M; intro k6 W M)
                        | ((with_reducible show wpList _ _ _ (Oper.mk _ (Op.store 49 _ _) _ _ _ _ :: _) _ _); (first | (refine wpList_put M rfl _ _ rfl rtT 0 _ rfl rfl rfl rfl rfl (by simp [Value.oneCell']) ?_)); clear M; intro W M; simp only [List.set_cons_zero, List.set_cons_succ] at M)
                        | ((with_reducible show wpList _ _ _ (Oper.mk _ (Op.load 38 (Operand.tmp 30)) _ _ _ _ :: _) _ _); refine wpList_loadp M (by rfl) _ rfl rtX _ rfl (by first | exact .head _) (by rfl) (by rfl) ?_)
                        | ((with_reducible show wpList _ _ _ (Oper.mk _ (Op.load 38 (Operand.tmp 35)) _ _ _ _ :: _) _ _); refine wpList_loadp M (by rfl) _ rfl rtX _ rfl (by first | exact .head _) (by rfl) (by rfl) ?_)
                        | ((with_reducible show wpList _ _ _ (Oper.mk _ (Op.load 38 (Operand.tmp 79)) _ _ _ _ :: _) _ _); refine wpList_loadp M (by rfl) _ rfl rtX _ rfl (by first | exact .head _) (by rfl) (by rfl) ?_)
                        | ((with_reducible show wpList _ _ _ (Oper.mk _ (Op.load 38 (Operand.tmp 85)) _ _ _ _ :: _) _ _); refine wpList_loadp M (by rfl) _ rfl rtX _ rfl (by first | exact .head _) (by rfl) (by rfl) ?_)
                        | ((with_reducible show wpList _ _ _ (Oper.mk _ (Op.binOp BinOp.eql 38 _ _ 38) _ _ _ _ :: _) _ _); refine wpList_value (by first | rfl | go_simp) _ ((E.exec_eql23 rfl ⟨h1, v1, o1, g1⟩ E.EX.z rfl rfl _).trans (congrArg (fun b => Result.ok (Next.value (Value.bool b)) _) HE1.out)) ?_)
                        | ((with_reducible show wpList _ _ _ (Oper.mk _ (Op.binOp BinOp.eql 38 _ _ 38) _ _ _ _ :: _) _ _); refine wpList_value (by first | rfl | go_simp) _ ((E.exec_eql23 rfl ⟨h2, v2, o2, g2⟩ E.EX.z rfl rfl _).trans (congrArg (fun b => Result.ok (Next.value (Value.bool b)) _) HE2.out)) ?_)
                        | ((with_reducible show wpList _ _ _ (Oper.mk _ (Op.load 4 _) _ _ _ _ :: _) _ _); refine wpList_cell4 M (by rfl) _ rfl _ rfl (by first | exact .head _) rfl ?_)
                        | ((with_reducible show wpList _ _ _ (Oper.mk _ (Op.load 2 _) _ _ _ _ :: _) _ _); refine wpList_cell2 M (by rfl) _ rfl _ rfl (by first | exact .head _) rfl ?_)
                        | ((with_reducible show wpList _ _ _ (Oper.mk _ (Op.load 3 _) _ _ _ _ :: _) _ _); refine wpList_cell3 M (by rfl) _ rfl _ rfl (by first | exact .head _) rfl ?_)
                        | (go_at_call 22; refine (K0 _).mono ?_; clear K0; rintro e W2 ⟨rfl, rfl⟩)
                        | (go_at_call 15; refine (K1 _).mono ?_; clear K1; rintro e W2 ⟨rfl, b1⟩; replace M := M.later b1; clear b1)
                        | (go_at_call 15; refine (K2 _).mono ?_; clear K2; rintro e W2 ⟨rfl, b1⟩; replace M := M.later b1; clear b1))
                  go_ret
                  exact ⟨ret_bool HF.out.symm, M.below⟩
                | true =>
                  cases k4 with
                  | false =>
                    have HF : Hid (R = false) := HBAD.out (HO.out.trans (by simp [okB]))
                    go_wp2_with (first
                          | ((with_reducible show wpList _ _ _ (Oper.mk _ (Op.load 49 (Operand.tmp 28)) _ _ _ _ :: _) _ _); refine wpList_load35w (by rfl) _ rfl b (off + i * 16) _ _ _ _ _ _ _ _ _ _ _ _ _ _ _ _ rfl (KR _ M.below) ?_)
                          | ((with_reducible show wpList _ _ _ (Oper.mk (some 6) (Op.alloc 49) _ _ _ _ :: _) _ _); refine wpList_alloc M rfl rfl rtT ?_; clear M; intro k6 W M)
                          | ((with_reducible show wpList _ _ _ (Oper.mk _ (Op.store 49 _ _) _ _ _ _ :: _) _ _); (first | (refine wpList_put M rfl _ _ rfl rtT 0 _ rfl rfl rfl rfl rfl (by simp [Value.oneCell']) ?_)); clear M; intro W M; simp only [List.set_cons_zero, List.set_cons_succ] at M)
                          | ((with_reducible show wpList _ _ _ (Oper.mk _ (Op.load 38 (Operand.tmp 30)) _ _ _ _ :: _) _ _); refine wpList_loadp M (by rfl) _ rfl rtX _ rfl (by first | exact .head _) (by rfl) (by rfl) ?_)
                          | ((with_reducible show wpList _ _ _ (Oper.mk _ (Op.load 38 (Operand.tmp 35)) _ _ _ _ :: _) _ _); refine wpList_loadp M (by rfl) _ rfl rtX _ rfl (by first | exact .head _) (by rfl) (by rfl) ?_)
                          | ((with_reducible show wpList _ _ _ (Oper.mk _ (Op.load 38 (Operand.tmp 79)) _ _ _ _ :: _) _ _); refine wpList_loadp M (by rfl) _ rfl rtX _ rfl (by first | exact .head _) (by rfl) (by rfl) ?_)
                          | ((with_reducible show wpList _ _ _ (Oper.mk _ (Op.load 38 (Operand.tmp 85)) _ _ _ _ :: _) _ _); refine wpList_loadp M (by rfl) _ rfl rtX _ rfl (by first | exact .head _) (by rfl) (by rfl) ?_)
                          | ((with_reducible show wpList _ _ _ (Oper.mk _ (Op.binOp BinOp.eql 38 _ _ 38) _ _ _ _ :: _) _ _); refine wpList_value (by first | rfl | go_simp) _ ((E.exec_eql23 rfl ⟨h1, v1, o1, g1⟩ E.EX.z rfl rfl _).trans (congrArg (fun b => Result.ok (Next.value (Value.bool b)) _) HE1.out)) ?_)
                          | ((with_reducible show wpList _ _ _ (Oper.mk _ (Op.binOp BinOp.eql 38 _ _ 38) _ _ _ _ :: _) _ _); refine wpList_value (by first | rfl | go_simp) _ ((E.exec_eql23 rfl ⟨h2, v2, o2, g2⟩ E.EX.z rfl rfl _).trans (congrArg (fun b => Result.ok (Next.value (Value.bool b)) _) HE2.out)) ?_)
                          | ((with_reducible show wpList _ _ _ (Oper.mk _ (Op.load 4 _) _ _ _ _ :: _) _ _); refine wpList_cell4 M (by rfl) _ rfl _ rfl (by first | exact .head _) rfl ?_)
                          | ((with_reducible show wpList _ _ _ (Oper.mk _ (Op.load 2 _) _ _ _ _ :: _) _ _); refine wpList_cell2 M (by rfl) _ rfl _ rfl (by first | exact .head _) rfl ?_)
                          | ((with_reducible show wpList _ _ _ (Oper.mk _ (Op.load 3 _) _ _ _ _ :: _) _ _); refine wpList_cell3 M (by rfl) _ rfl _ rfl (by first | exact .head _) rfl ?_)
                          | (go_at_call 22; refine (K0 _).mono ?_; clear K0; rintro e W2 ⟨rfl, rfl⟩)
                          | (go_at_call 15; refine (K1 _).mono ?_; clear K1; rintro e W2 ⟨rfl, b1⟩; replace M := M.later b1; clear b1)
                          | (go_at_call 15; refine (K2 _).mono ?_; clear K2; rintro e W2 ⟨rfl, b1⟩; replace M := M.later b1; clear b1))
                    go_ret
                    exact ⟨ret_bool HF.out.symm, M.below⟩
                  | true =>
                    cases f1 with
                    | false =>
                      have HF : Hid (R = false) := HBAD.out (HO.out.trans (by simp [okB]))
                      go_wp2_with (first
                            | ((with_reducible show wpList _ _ _ (Oper.mk _ (Op.load 49 (Operand.tmp 28)) _ _ _ _ :: _) _ _); refine wpList_load35w (by rfl) _ rfl b (off + i * 16) _ _ _ _ _ _ _ _ _ _ _ _ _ _ _ _ rfl (KR _ M.below) ?_)
                            | ((with_reducible show wpList _ _ _ (Oper.mk (some 6) (Op.alloc 49) _ _ _ _ :: _) _ _); refine wpList_alloc M rfl rfl rtT ?_; clear M; intro k6 W M)
                            | ((with_reducible show wpList _ _ _ (Oper.mk _ (Op.store 49 _ _) _ _ _ _ :: _) _ _); (first | (refine wpList_put M rfl _ _ rfl rtT 0 _ rfl rfl rfl rfl rfl (by simp [Value.oneCell']) ?_)); clear M; intro W M; simp only [List.set_cons_zero, List.set_cons_succ] at M)
                            | ((with_reducible show wpList _ _ _ (Oper.mk _ (Op.load 38 (Operand.tmp 30)) _ _ _ _ :: _) _ _); refine wpList_loadp M (by rfl) _ rfl rtX _ rfl (by first | exact .head _) (by rfl) (by rfl) ?_)
                            | ((with_reducible show wpList _ _ _ (Oper.mk _ (Op.load 38 (Operand.tmp 35)) _ _ _ _ :: _) _ _); refine wpList_loadp M (by rfl) _ rfl rtX _ rfl (by first | exact .head _) (by rfl) (by rfl) ?_)
                            | ((with_reducible show wpList _ _ _ (Oper.mk _ (Op.load 38 (Operand.tmp 79)) _ _ _ _ :: _) _ _); refine wpList_loadp M (by rfl) _ rfl rtX _ rfl (by first | exact .head _) (by rfl) (by rfl) ?_)
                            | ((with_reducible show wpList _ _ _ (Oper.mk _ (Op.load 38 (Operand.tmp 85)) _ _ _ _ :: _) _ _); refine wpList_loadp M (by rfl) _ rfl rtX _ rfl (by first | exact .head _) (by rfl) (by rfl) ?_)
                            | ((with_reducible show wpList _ _ _ (Oper.mk _ (Op.binOp BinOp.eql 38 _ _ 38) _ _ _ _ :: _) _ _); refine wpList_value (by first | rfl | go_simp) _ ((E.exec_eql23 rfl ⟨h1, v1, o1, g1⟩ E.EX.z rfl rfl _).trans (congrArg (fun b => Result.ok (Next.value (Value.bool b)) _) HE1.out)) ?_)
                            | ((with_reducible show wpList _ _ _ (Oper.mk _ (Op.binOp BinOp.eql 38 _ _ 38) _ _ _ _ :: _) _ _); refine wpList_value (by first | rfl | go_simp) _ ((E.exec_eql23 rfl ⟨h2, v2, o2, g2⟩ E.EX.z rfl rfl _).trans (congrArg (fun b => Result.ok (Next.value (Value.bool b)) _) HE2.out)) ?_)
                            | ((with_reducible show wpList _ _ _ (Oper.mk _ (Op.load 4 _) _ _ _ _ :: _) _ _); refine wpList_cell4 M (by rfl) _ rfl _ rfl (by first | exact .head _) rfl ?_)
                            | ((with_reducible show wpList _ _ _ (Oper.mk _ (Op.load 2 _) _ _ _ _ :: _) _ _); refine wpList_cell2 M (by rfl) _ rfl _ rfl (by first | exact .head _) rfl ?_)
                            | ((with_reducible show wpList _ _ _ (Oper.mk _ (Op.load 3 _) _ _ _ _ :: _) _ _); refine wpList_cell3 M (by rfl) _ rfl _ rfl (by first | exact .head _) rfl ?_)
                            | (go_at_call 22; refine (K0 _).mono ?_; clear K0; rintro e W2 ⟨rfl, rfl⟩)
                            | (go_at_call 15; refine (K1 _).mono ?_; clear K1; rintro e W2 ⟨rfl, b1⟩; replace M := M.later b1; clear b1)
                            | (go_at_call 15; refine (K2 _).mono ?_; clear K2; rintro e W2 ⟨rfl, b1⟩; replace M := M.later b1; clear b1))
                      go_ret
                      exact ⟨ret_bool HF.out.symm, M.below⟩
                    | true =>
                      cases f2 with
                      | false =>
                        have HF : Hid (R = false) := HBAD.out (HO.out.trans (by simp [okB]))
                        go_wp2_with (first
                              | ((with_reducible show wpList _ _ _ (Oper.mk _ (Op.load 49 (Operand.tmp 28)) _ _ _ _ :: _) _ _); refine wpList_load35w (by rfl) _ rfl b (off + i * 16) _ _ _ _ _ _ _ _ _ _ _ _ _ _ _ _ rfl (KR _ M.below) ?_)
                              | ((with_reducible show wpList _ _ _ (Oper.mk (some 6) (Op.alloc 49) _ _ _ _ :: _) _ _); refine wpList_alloc M rfl rfl rtT ?_; clear M; intro k6 W M)
                              | ((with_reducible show wpList _ _ _ (Oper.mk _ (Op.store 49 _ _) _ _ _ _ :: _) _ _); (first | (refine wpList_put M rfl _ _ rfl rtT 0 _ rfl rfl rfl rfl rfl (by simp [Value.oneCell']) ?_)); clear M; intro W M; simp only [List.set_cons_zero, List.set_cons_succ] at M)
                              | ((with_reducible show wpList _ _ _ (Oper.mk _ (Op.load 38 (Operand.tmp 30)) _ _ _ _ :: _) _ _); refine wpList_loadp M (by rfl) _ rfl rtX _ rfl (by first | exact .head _) (by rfl) (by rfl) ?_)
                              | ((with_reducible show wpList _ _ _ (Oper.mk _ (Op.load 38 (Operand.tmp 35)) _ _ _ _ :: _) _ _); refine wpList_loadp M (by rfl) _ rfl rtX _ rfl (by first | exact .head _) (by rfl) (by rfl) ?_)
                              | ((with_reducible show wpList _ _ _ (Oper.mk _ (Op.load 38 (Operand.tmp 79)) _ _ _ _ :: _) _ _); refine wpList_loadp M (by rfl) _ rfl rtX _ rfl (by first | exact .head _) (by rfl) (by rfl) ?_)
                              | ((with_reducible show wpList _ _ _ (Oper.mk _ (Op.load 38 (Operand.tmp 85)) _ _ _ _ :: _) _ _); refine wpList_loadp M (by rfl) _ rfl rtX _ rfl (by first | exact .head _) (by rfl) (by rfl) ?_)
                              | ((with_reducible show wpList _ _ _ (Oper.mk _ (Op.binOp BinOp.eql 38 _ _ 38) _ _ _ _ :: _) _ _); refine wpList_value (by first | rfl | go_simp) _ ((E.exec_eql23 rfl ⟨h1, v1, o1, g1⟩ E.EX.z rfl rfl _).trans (congrArg (fun b => Result.ok (Next.value (Value.bool b)) _) HE1.out)) ?_)
                              | ((with_reducible show wpList _ _ _ (Oper.mk _ (Op.binOp BinOp.eql 38 _ _ 38) _ _ _ _ :: _) _ _); refine wpList_value (by first | rfl | go_simp) _ ((E.exec_eql23 rfl ⟨h2, v2, o2, g2⟩ E.EX.z rfl rfl _).trans (congrArg (fun b => Result.ok (Next.value (Value.bool b)) _) HE2.out)) ?_)
                              | ((with_reducible show wpList _ _ _ (Oper.mk _ (Op.load 4 _) _ _ _ _ :: _) _ _); refine wpList_cell4 M (by rfl) _ rfl _ rfl (by first | exact .head _) rfl ?_)
                              | ((with_reducible show wpList _ _ _ (Oper.mk _ (Op.load 2 _) _ _ _ _ :: _) _ _); refine wpList_cell2 M (by rfl) _ rfl _ rfl (by first | exact .head _) rfl ?_)
                              | ((with_reducible show wpList _ _ _ (Oper.mk _ (Op.load 3 _) _ _ _ _ :: _) _ _); refine wpList_cell3 M (by rfl) _ rfl _ rfl (by first | exact .head _) rfl ?_)
                              | (go_at_call 22; refine (K0 _).mono ?_; clear K0; rintro e W2 ⟨rfl, rfl⟩)
                              | (go_at_call 15; refine (K1 _).mono ?_; clear K1; rintro e W2 ⟨rfl, b1⟩; replace M := M.later b1; clear b1)
                              | (go_at_call 15; refine (K2 _).mono ?_; clear K2; rintro e W2 ⟨rfl, b1⟩; replace M := M.later b1; clear b1))
                        go_ret
                        exact ⟨ret_bool HF.out.symm, M.below⟩
                      | true =>
                        have HV := HO.out.trans (show _ = true from by simp [okB])
                        go_wp2_with (first
                              | ((with_reducible show wpList _ _ _ (Oper.mk _ (Op.load 49 (Operand.tmp 28)) _ _ _ _ :: _) _ _); refine wpList_load35w (by rfl) _ rfl b (off + i * 16) _ _ _ _ _ _ _ _ _ _ _ _ _ _ _ _ rfl (KR _ M.below) ?_)
                              | ((with_reducible show wpList _ _ _ (Oper.mk (some 6) (Op.alloc 49) _ _ _ _ :: _) _ _); refine wpList_alloc M rfl rfl rtT ?_; clear M; intro k6 W M)
                              | ((with_reducible show wpList _ _ _ (Oper.mk _ (Op.store 49 _ _) _ _ _ _ :: _) _ _); (first | (refine wpList_put M rfl _ _ rfl rtT 0 _ rfl rfl rfl rfl rfl (by simp [Value.oneCell']) ?_)); clear M; intro W M; simp only [List.set_cons_zero, List.set_cons_succ] at M)
                              | ((with_reducible show wpList _ _ _ (Oper.mk _ (Op.load 38 (Operand.tmp 30)) _ _ _ _ :: _) _ _); refine wpList_loadp M (by rfl) _ rfl rtX _ rfl (by first | exact .head _) (by rfl) (by rfl) ?_)
                              | ((with_reducible show wpList _ _ _ (Oper.mk _ (Op.load 38 (Operand.tmp 35)) _ _ _ _ :: _) _ _); refine wpList_loadp M (by rfl) _ rfl rtX _ rfl (by first | exact .head _) (by rfl) (by rfl) ?_)
                              | ((with_reducible show wpList _ _ _ (Oper.mk _ (Op.load 38 (Operand.tmp 79)) _ _ _ _ :: _) _ _); refine wpList_loadp M (by rfl) _ rfl rtX _ rfl (by first | exact .head _) (by rfl) (by rfl) ?_)
                              | ((with_reducible show wpList _ _ _ (Oper.mk _ (Op.load 38 (Operand.tmp 85)) _ _ _ _ :: _) _ _); refine wpList_loadp M (by rfl) _ rfl rtX _ rfl (by first | exact .head _) (by rfl) (by rfl) ?_)
                              | ((with_reducible show wpList _ _ _ (Oper.mk _ (Op.binOp BinOp.eql 38 _ _ 38) _ _ _ _ :: _) _ _); refine wpList_value (by first | rfl | go_simp) _ ((E.exec_eql23 rfl ⟨h1, v1, o1, g1⟩ E.EX.z rfl rfl _).trans (congrArg (fun b => Result.ok (Next.value (Value.bool b)) _) HE1.out)) ?_)
                              | ((with_reducible show wpList _ _ _ (Oper.mk _ (Op.binOp BinOp.eql 38 _ _ 38) _ _ _ _ :: _) _ _); refine wpList_value (by first | rfl | go_simp) _ ((E.exec_eql23 rfl ⟨h2, v2, o2, g2⟩ E.EX.z rfl rfl _).trans (congrArg (fun b => Result.ok (Next.value (Value.bool b)) _) HE2.out)) ?_)
                              | ((with_reducible show wpList _ _ _ (Oper.mk _ (Op.load 4 _) _ _ _ _ :: _) _ _); refine wpList_cell4 M (by rfl) _ rfl _ rfl (by first | exact .head _) rfl ?_)
                              | ((with_reducible show wpList _ _ _ (Oper.mk _ (Op.load 2 _) _ _ _ _ :: _) _ _); refine wpList_cell2 M (by rfl) _ rfl _ rfl (by first | exact .head _) rfl ?_)
                              | ((with_reducible show wpList _ _ _ (Oper.mk _ (Op.load 3 _) _ _ _ _ :: _) _ _); refine wpList_cell3 M (by rfl) _ rfl _ rfl (by first | exact .head _) rfl ?_)
                              | (go_at_call 22; refine (K0 _).mono ?_; clear K0; rintro e W2 ⟨rfl, rfl⟩)
                              | (go_at_call 15; refine (K1 _).mono ?_; clear K1; rintro e W2 ⟨rfl, b1⟩; replace M := M.later b1; clear b1)
                              | (go_at_call 15; refine (K2 _).mono ?_; clear K2; rintro e W2 ⟨rfl, b1⟩; replace M := M.later b1; clear b1))
                        go_roundg (gk - 1)
                        case measure => have := HI.out; omega
                        case rel => exact ⟨i + 1, by first | rfl | go_num, by have := HI.out; omega, M.tail, HOKN.out HV⟩
            | true =>
              cases f0 with
              | false =>
                have HF : Hid (R = false) := HBAD.out (HO.out.trans (by simp [okB]))
                go_wp2_with (first
                      | ((with_reducible show wpList _ _ _ (Oper.mk _ (Op.load 49 (Operand.tmp 28)) _ _ _ _ :: _) _ _); refine wpList_load35w (by rfl) _ rfl b (off + i * 16) _ _ _ _ _ _ _ _ _ _ _ _ _ _ _ _ rfl (KR _ M.below) ?_)
                      | ((with_reducible show wpList _ _ _ (Oper.mk (some 6) (Op.alloc 49) _ _ _ _ :: _) _ _); refine wpList_alloc M rfl rfl rtT ?_; clear M; intro k6 W M)
                      | ((with_reducible show wpList _ _ _ (Oper.mk _ (Op.store 49 _ _) _ _ _ _ :: _) _ _); (first | (refine wpList_put M rfl _ _ rfl rtT 0 _ rfl rfl rfl rfl rfl (by simp [Value.oneCell']) ?_)); clear M; intro W M; simp only [List.set_cons_zero, List.set_cons_succ] at M)
                      | ((with_reducible show wpList _ _ _ (Oper.mk _ (Op.load 38 (Operand.tmp 30)) _ _ _ _ :: _) _ _); refine wpList_loadp M (by rfl) _ rfl rtX _ rfl (by first | exact .head _) (by rfl) (by rfl) ?_)
                      | ((with_reducible show wpList _ _ _ (Oper.mk _ (Op.load 38 (Operand.tmp 35)) _ _ _ _ :: _) _ _); refine wpList_loadp M (by rfl) _ rfl rtX _ rfl (by first | exact .head _) (by rfl) (by rfl) ?_)
                      | ((with_reducible show wpList _ _ _ (Oper.mk _ (Op.load 38 (Operand.tmp 79)) _ _ _ _ :: _) _ _); refine wpList_loadp M (by rfl) _ rfl rtX _ rfl (by first | exact .head _) (by rfl) (by rfl) ?_)
                      | ((with_reducible show wpList _ _ _ (Oper.mk _ (Op.load 38 (Operand.tmp 85)) _ _ _ _ :: _) _ _); refine wpList_loadp M (by rfl) _ rfl rtX _ rfl (by first | exact .head _) (by rfl) (by rfl) ?_)
                      | ((with_reducible show wpList _ _ _ (Oper.mk _ (Op.binOp BinOp.eql 38 _ _ 38) _ _ _ _ :: _) _ _); refine wpList_value (by first | rfl | go_simp) _ ((E.exec_eql23 rfl ⟨h1, v1, o1, g1⟩ E.EX.z rfl rfl _).trans (congrArg (fun b => Result.ok (Next.value (Value.bool b)) _) HE1.out)) ?_)
                      | ((with_reducible show wpList _ _ _ (Oper.mk _ (Op.binOp BinOp.eql 38 _ _ 38) _ _ _ _ :: _) _ _); refine wpList_value (by first | rfl | go_simp) _ ((E.exec_eql23 rfl ⟨h2, v2, o2, g2⟩ E.EX.z rfl rfl _).trans (congrArg (fun b => Result.ok (Next.value (Value.bool b)) _) HE2.out)) ?_)
                      | ((with_reducible show wpList _ _ _ (Oper.mk _ (Op.load 4 _) _ _ _ _ :: _) _ _); refine wpList_cell4 M (by rfl) _ rfl _ rfl (by first | exact .head _) rfl ?_)
                      | ((with_reducible show wpList _ _ _ (Oper.mk _ (Op.load 2 _) _ _ _ _ :: _) _ _); refine wpList_cell2 M (by rfl) _ rfl _ rfl (by first | exact .head _) rfl ?_)
                      | ((with_reducible show wpList _ _ _ (Oper.mk _ (Op.load 3 _) _ _ _ _ :: _) _ _); refine wpList_cell3 M (by rfl) _ rfl _ rfl (by first | exact .head _) rfl ?_)
                      | (go_at_call 22; refine (K0 _).mono ?_; clear K0; rintro e W2 ⟨rfl, rfl⟩)
                      | (go_at_call 15; refine (K1 _).mono ?_; clear K1; rintro e W2 ⟨rfl, b1⟩; replace M := M.later b1; clear b1)
                      | (go_at_call 15; refine (K2 _).mono ?_; clear K2; rintro e W2 ⟨rfl, b1⟩; replace M := M.later b1; clear b1))
                go_ret
                exact ⟨ret_bool HF.out.symm, M.below⟩
              | true =>
                cases k4 with
                | false =>
                  have HF : Hid (R = false) := HBAD.out (HO.out.trans (by simp [okB]))
                  go_wp2_with (first
                        | ((with_reducible show wpList _ _ _ (Oper.mk _ (Op.load 49 (Operand.tmp 28)) _ _ _ _ :: _) _ _); refine wpList_load35w (by rfl) _ rfl b (off + i * 16) _ _ _ _ _ _ _ _ _ _ _ _ _ _ _ _ rfl (KR _ M.below) ?_)
                        | ((with_reducible show wpList _ _ _ (Oper.mk (some 6) (Op.alloc 49) _ _ _ _ :: _) _ _); refine wpList_alloc M rfl rfl rtT ?_; clear M; intro k6 W M)
                        | ((with_reducible show wpList _ _ _ (Oper.mk _ (Op.store 49 _ _) _ _ _ _ :: _) _ _); (first | (refine wpList_put M rfl _ _ rfl rtT 0 _ rfl rfl rfl rfl rfl (by simp [Value.oneCell']) ?_)); clear M; intro W M; simp only [List.set_cons_zero, List.set_cons_succ] at M)
                        | ((with_reducible show wpList _ _ _ (Oper.mk _ (Op.load 38 (Operand.tmp 30)) _ _ _ _ :: _) _ _); refine wpList_loadp M (by rfl) _ rfl rtX _ rfl (by first | exact .head _) (by rfl) (by rfl) ?_)
                        | ((with_reducible show wpList _ _ _ (Oper.mk _ (Op.load 38 (Operand.tmp 35)) _ _ _ _ :: _) _ _); refine wpList_loadp M (by rfl) _ rfl rtX _ rfl (by first | exact .head _) (by rfl) (by rfl) ?_)
                        | ((with_reducible show wpList _ _ _ (Oper.mk _ (Op.load 38 (Operand.tmp 79)) _ _ _ _ :: _) _ _); refine wpList_loadp M (by rfl) _ rfl rtX _ rfl (by first | exact .head _) (by rfl) (by rfl) ?_)
                        | ((with_reducible show wpList _ _ _ (Oper.mk _ (Op.load 38 (Operand.tmp 85)) _ _ _ _ :: _) _ _); refine wpList_loadp M (by rfl) _ rfl rtX _ rfl (by first | exact .head _) (by rfl) (by rfl) ?_)
                        | ((with_reducible show wpList _ _ _ (Oper.mk _ (Op.binOp BinOp.eql 38 _ _ 38) _ _ _ _ :: _) _ _); refine wpList_value (by first | rfl | go_simp) _ ((E.exec_eql23 rfl ⟨h1, v1, o1, g1⟩ E.EX.z rfl rfl _).trans (congrArg (fun b => Result.ok (Next.value (Value.bool b)) _) HE1.out)) ?_)
                        | ((with_reducible show wpList _ _ _ (Oper.mk _ (Op.binOp BinOp.eql 38 _ _ 38) _ _ _ _ :: _) _ _); refine wpList_value (by first | rfl | go_simp) _ ((E.exec_eql23 rfl ⟨h2, v2, o2, g2⟩ E.EX.z rfl rfl _).trans (congrArg (fun b => Result.ok (Next.value (Value.bool b)) _) HE2.out)) ?_)
                        | ((with_reducible show wpList _ _ _ (Oper.mk _ (Op.load 4 _) _ _ _ _ :: _) _ _); refine wpList_cell4 M (by rfl) _ rfl _ rfl (by first | exact .head _) rfl ?_)
                        | ((with_reducible show wpList _ _ _ (Oper.mk _ (Op.load 2 _) _ _ _ _ :: _) _ _); refine wpList_cell2 M (by rfl) _ rfl _ rfl (by first | exact .head _) rfl ?_)
                        | ((with_reducible show wpList _ _ _ (Oper.mk _ (Op.load 3 _) _ _ _ _ :: _) _ _); refine wpList_cell3 M (by rfl) _ rfl _ rfl (by first | exact .head _) rfl ?_)
                        | (go_at_call 22; refine (K0 _).mono ?_; clear K0; rintro e W2 ⟨rfl, rfl⟩)
                        | (go_at_call 15; refine (K1 _).mono ?_; clear K1; rintro e W2 ⟨rfl, b1⟩; replace M := M.later b1; clear b1)
                        | (go_at_call 15; refine (K2 _).mono ?_; clear K2; rintro e W2 ⟨rfl, b1⟩; replace M := M.later b1; clear b1))
                  go_ret
                  exact ⟨ret_bool HF.out.symm, M.below⟩
                | true =>
                  cases f1 with
                  | false =>
                    have HF : Hid (R = false) := HBAD.out (HO.out.trans (by simp [okB]))
                    go_wp2_with (first
                          | ((with_reducible show wpList _ _ _ (Oper.mk _ (Op.load 49 (Operand.tmp 28)) _ _ _ _ :: _) _ _); refine wpList_load35w (by rfl) _ rfl b (off + i * 16) _ _ _ _ _ _ _ _ _ _ _ _ _ _ _ _ rfl (KR _ M.below) ?_)
                          | ((with_reducible show wpList _ _ _ (Oper.mk (some 6) (Op.alloc 49) _ _ _ _ :: _) _ _); refine wpList_alloc M rfl rfl rtT ?_; clear M; intro k6 W M)
                          | ((with_reducible show wpList _ _ _ (Oper.mk _ (Op.store 49 _ _) _ _ _ _ :: _) _ _); (first | (refine wpList_put M rfl _ _ rfl rtT 0 _ rfl rfl rfl rfl rfl (by simp [Value.oneCell']) ?_)); clear M; intro W M; simp only [List.set_cons_zero, List.set_cons_succ] at M)
                          | ((with_reducible show wpList _ _ _ (Oper.mk _ (Op.load 38 (Operand.tmp 30)) _ _ _ _ :: _) _ _); refine wpList_loadp M (by rfl) _ rfl rtX _ rfl (by first | exact .head _) (by rfl) (by rfl) ?_)
                          | ((with_reducible show wpList _ _ _ (Oper.mk _ (Op.load 38 (Operand.tmp 35)) _ _ _ _ :: _) _ _); refine wpList_loadp M (by rfl) _ rfl rtX _ rfl (by first | exact .head _) (by rfl) (by rfl) ?_)
                          | ((with_reducible show wpList _ _ _ (Oper.mk _ (Op.load 38 (Operand.tmp 79)) _ _ _ _ :: _) _ _); refine wpList_loadp M (by rfl) _ rfl rtX _ rfl (by first | exact .head _) (by rfl) (by rfl) ?_)
                          | ((with_reducible show wpList _ _ _ (Oper.mk _ (Op.load 38 (Operand.tmp 85)) _ _ _ _ :: _) _ _); refine wpList_loadp M (by rfl) _ rfl rtX _ rfl (by first | exact .head _) (by rfl) (by rfl) ?_)
                          | ((with_reducible show wpList _ _ _ (Oper.mk _ (Op.binOp BinOp.eql 38 _ _ 38) _ _ _ _ :: _) _ _); refine wpList_value (by first | rfl | go_simp) _ ((E.exec_eql23 rfl ⟨h1, v1, o1, g1⟩ E.EX.z rfl rfl _).trans (congrArg (fun b => Result.ok (Next.value (Value.bool b)) _) HE1.out)) ?_)
                          | ((with_reducible show wpList _ _ _ (Oper.mk _ (Op.binOp BinOp.eql 38 _ _ 38) _ _ _ _ :: _) _ _); refine wpList_value (by first | rfl | go_simp) _ ((E.exec_eql23 rfl ⟨h2, v2, o2, g2⟩ E.EX.z rfl rfl _).trans (congrArg (fun b => Result.ok (Next.value (Value.bool b)) _) HE2.out)) ?_)
                          | ((with_reducible show wpList _ _ _ (Oper.mk _ (Op.load 4 _) _ _ _ _ :: _) _ _); refine wpList_cell4 M (by rfl) _ rfl _ rfl (by first | exact .head _) rfl ?_)
                          | ((with_reducible show wpList _ _ _ (Oper.mk _ (Op.load 2 _) _ _ _ _ :: _) _ _); refine wpList_cell2 M (by rfl) _ rfl _ rfl (by first | exact .head _) rfl ?_)
                          | ((with_reducible show wpList _ _ _ (Oper.mk _ (Op.load 3 _) _ _ _ _ :: _) _ _); refine wpList_cell3 M (by rfl) _ rfl _ rfl (by first | exact .head _) rfl ?_)
                          | (go_at_call 22; refine (K0 _).mono ?_; clear K0; rintro e W2 ⟨rfl, rfl⟩)
                          | (go_at_call 15; refine (K1 _).mono ?_; clear K1; rintro e W2 ⟨rfl, b1⟩; replace M := M.later b1; clear b1)
                          | (go_at_call 15; refine (K2 _).mono ?_; clear K2; rintro e W2 ⟨rfl, b1⟩; replace M := M.later b1; clear b1))
                    go_ret
                    exact ⟨ret_bool HF.out.symm, M.below⟩
                  | true =>
                    cases f2 with
                    | false =>
                      have HF : Hid (R = false) := HBAD.out (HO.out.trans (by simp [okB]))
                      go_wp2_with (first
                            | ((with_reducible show wpList _ _ _ (Oper.mk _ (Op.load 49 (Operand.tmp 28)) _ _ _ _ :: _) _ _); refine wpList_load35w (by rfl) _ rfl b (off + i * 16) _ _ _ _ _ _ _ _ _ _ _ _ _ _ _ _ rfl (KR _ M.below) ?_)
                            | ((with_reducible show wpList _ _ _ (Oper.mk (some 6) (Op.alloc 49) _ _ _ _ :: _) _ _); refine wpList_alloc M rfl rfl rtT ?_; clear M; intro k6 W M)
                            | ((with_reducible show wpList _ _ _ (Oper.mk _ (Op.store 49 _ _) _ _ _ _ :: _) _ _); (first | (refine wpList_put M rfl _ _ rfl rtT 0 _ rfl rfl rfl rfl rfl (by simp [Value.oneCell']) ?_)); clear M; intro W M; simp only [List.set_cons_zero, List.set_cons_succ] at M)
                            | ((with_reducible show wpList _ _ _ (Oper.mk _ (Op.load 38 (Operand.tmp 30)) _ _ _ _ :: _) _ _); refine wpList_loadp M (by rfl) _ rfl rtX _ rfl (by first | exact .head _) (by rfl) (by rfl) ?_)
                            | ((with_reducible show wpList _ _ _ (Oper.mk _ (Op.load 38 (Operand.tmp 35)) _ _ _ _ :: _) _ _); refine wpList_loadp M (by rfl) _ rfl rtX _ rfl (by first | exact .head _) (by rfl) (by rfl) ?_)
                            | ((with_reducible show wpList _ _ _ (Oper.mk _ (Op.load 38 (Operand.tmp 79)) _ _ _ _ :: _) _ _); refine wpList_loadp M (by rfl) _ rfl rtX _ rfl (by first | exact .head _) (by rfl) (by rfl) ?_)
                            | ((with_reducible show wpList _ _ _ (Oper.mk _ (Op.load 38 (Operand.tmp 85)) _ _ _ _ :: _) _ _); refine wpList_loadp M (by rfl) _ rfl rtX _ rfl (by first | exact .head _) (by rfl) (by rfl) ?_)
                            | ((with_reducible show wpList _ _ _ (Oper.mk _ (Op.binOp BinOp.eql 38 _ _ 38) _ _ _ _ :: _) _ _); refine wpList_value (by first | rfl | go_simp) _ ((E.exec_eql23 rfl ⟨h1, v1, o1, g1⟩ E.EX.z rfl rfl _).trans (congrArg (fun b => Result.ok (Next.value (Value.bool b)) _) HE1.out)) ?_)
                            | ((with_reducible show wpList _ _ _ (Oper.mk _ (Op.binOp BinOp.eql 38 _ _ 38) _ _ _ _ :: _) _ _); refine wpList_value (by first | rfl | go_simp) _ ((E.exec_eql23 rfl ⟨h2, v2, o2, g2⟩ E.EX.z rfl rfl _).trans (congrArg (fun b => Result.ok (Next.value (Value.bool b)) _) HE2.out)) ?_)
                            | ((with_reducible show wpList _ _ _ (Oper.mk _ (Op.load 4 _) _ _ _ _ :: _) _ _); refine wpList_cell4 M (by rfl) _ rfl _ rfl (by first | exact .head _) rfl ?_)
                            | ((with_reducible show wpList _ _ _ (Oper.mk _ (Op.load 2 _) _ _ _ _ :: _) _ _); refine wpList_cell2 M (by rfl) _ rfl _ rfl (by first | exact .head _) rfl ?_)
                            | ((with_reducible show wpList _ _ _ (Oper.mk _ (Op.load 3 _) _ _ _ _ :: _) _ _); refine wpList_cell3 M (by rfl) _ rfl _ rfl (by first | exact .head _) rfl ?_)
                            | (go_at_call 22; refine (K0 _).mono ?_; clear K0; rintro e W2 ⟨rfl, rfl⟩)
                            | (go_at_call 15; refine (K1 _).mono ?_; clear K1; rintro e W2 ⟨rfl, b1⟩; replace M := M.later b1; clear b1)
                            | (go_at_call 15; refine (K2 _).mono ?_; clear K2; rintro e W2 ⟨rfl, b1⟩; replace M := M.later b1; clear b1))
                      go_ret
                      exact ⟨ret_bool HF.out.symm, M.below⟩
                    | true =>
                      have HV := HO.out.trans (show _ = true from by simp [okB])
                      go_wp2_with (first
                            | ((with_reducible show wpList _ _ _ (Oper.mk _ (Op.load 49 (Operand.tmp 28)) _ _ _ _ :: _) _ _); refine wpList_load35w (by rfl) _ rfl b (off + i * 16) _ _ _ _ _ _ _ _ _ _ _ _ _ _ _ _ rfl (KR _ M.below) ?_)
                            | ((with_reducible show wpList _ _ _ (Oper.mk (some 6) (Op.alloc 49) _ _ _ _ :: _) _ _); refine wpList_alloc M rfl rfl rtT ?_; clear M; intro k6 W M)
                            | ((with_reducible show wpList _ _ _ (Oper.mk _ (Op.store 49 _ _) _ _ _ _ :: _) _ _); (first | (refine wpList_put M rfl _ _ rfl rtT 0 _ rfl rfl rfl rfl rfl (by simp [Value.oneCell']) ?_)); clear M; intro W M; simp only [List.set_cons_zero, List.set_cons_succ] at M)
                            | ((with_reducible show wpList _ _ _ (Oper.mk _ (Op.load 38 (Operand.tmp 30)) _ _ _ _ :: _) _ _); refine wpList_loadp M (by rfl) _ rfl rtX _ rfl (by first | exact .head _) (by rfl) (by rfl) ?_)
                            | ((with_reducible show wpList _ _ _ (Oper.mk _ (Op.load 38 (Operand.tmp 35)) _ _ _ _ :: _) _ _); refine wpList_loadp M (by rfl) _ rfl rtX _ rfl (by first | exact .head _) (by rfl) (by rfl) ?_)
                            | ((with_reducible show wpList _ _ _ (Oper.mk _ (Op.load 38 (Operand.tmp 79)) _ _ _ _ :: _) _ _); refine wpList_loadp M (by rfl) _ rfl rtX _ rfl (by first | exact .head _) (by rfl) (by rfl) ?_)
                            | ((with_reducible show wpList _ _ _ (Oper.mk _ (Op.load 38 (Operand.tmp 85)) _ _ _ _ :: _) _ _); refine wpList_loadp M (by rfl) _ rfl rtX _ rfl (by first | exact .head _) (by rfl) (by rfl) ?_)
                            | ((with_reducible show wpList _ _ _ (Oper.mk _ (Op.binOp BinOp.eql 38 _ _ 38) _ _ _ _ :: _) _ _); refine wpList_value (by first | rfl | go_simp) _ ((E.exec_eql23 rfl ⟨h1, v1, o1, g1⟩ E.EX.z rfl rfl _).trans (congrArg (fun b => Result.ok (Next.value (Value.bool b)) _) HE1.out)) ?_)
                            | ((with_reducible show wpList _ _ _ (Oper.mk _ (Op.binOp BinOp.eql 38 _ _ 38) _ _ _ _ :: _) _ _); refine wpList_value (by first | rfl | go_simp) _ ((E.exec_eql23 rfl ⟨h2, v2, o2, g2⟩ E.EX.z rfl rfl _).trans (congrArg (fun b => Result.ok (Next.value (Value.bool b)) _) HE2.out)) ?_)
                            | ((with_reducible show wpList _ _ _ (Oper.mk _ (Op.load 4 _) _ _ _ _ :: _) _ _); refine wpList_cell4 M (by rfl) _ rfl _ rfl (by first | exact .head _) rfl ?_)
                            | ((with_reducible show wpList _ _ _ (Oper.mk _ (Op.load 2 _) _ _ _ _ :: _) _ _); refine wpList_cell2 M (by rfl) _ rfl _ rfl (by first | exact .head _) rfl ?_)
                            | ((with_reducible show wpList _ _ _ (Oper.mk _ (Op.load 3 _) _ _ _ _ :: _) _ _); refine wpList_cell3 M (by rfl) _ rfl _ rfl (by first | exact .head _) rfl ?_)
                            | (go_at_call 22; refine (K0 _).mono ?_; clear K0; rintro e W2 ⟨rfl, rfl⟩)
                            | (go_at_call 15; refine (K1 _).mono ?_; clear K1; rintro e W2 ⟨rfl, b1⟩; replace M := M.later b1; clear b1)
                            | (go_at_call 15; refine (K2 _).mono ?_; clear K2; rintro e W2 ⟨rfl, b1⟩; replace M := M.later b1; clear b1))
                      go_roundg (gk - 1)
                      case measure => have := HI.out; omega
                      case rel => exact ⟨i + 1, by first | rfl | go_num, by have := HI.out; omega, M.tail, HOKN.out HV⟩
        | true =>
          cases al with
          | false =>
            cases hv with
            | false =>
              cases zi with
              | false =>
                have HF : Hid (R = false) := HBAD.out (HO.out.trans (by simp [okB]))
                go_wp2_with (first
                      | ((with_reducible show wpList _ _ _ (Oper.mk _ (Op.load 49 (Operand.tmp 28)) _ _ _ _ :: _) _ _); refine wpList_load35w (by rfl) _ rfl b (off + i * 16) _ _ _ _ _ _ _ _ _ _ _ _ _ _ _ _ rfl (KR _ M.below) ?_)
                      | ((with_reducible show wpList _ _ _ (Oper.mk (some 6) (Op.alloc 49) _ _ _ _ :: _) _ _); refine wpList_alloc M rfl rfl rtT ?_; clear M; intro k6 W M)
                      | ((with_reducible show wpList _ _ _ (Oper.mk _ (Op.store 49 _ _) _ _ _ _ :: _) _ _); (first | (refine wpList_put M rfl _ _ rfl rtT 0 _ rfl rfl rfl rfl rfl (by simp [Value.oneCell']) ?_)); clear M; intro W M; simp only [List.set_cons_zero, List.set_cons_succ] at M)
                      | ((with_reducible show wpList _ _ _ (Oper.mk _ (Op.load 38 (Operand.tmp 30)) _ _ _ _ :: _) _ _); refine wpList_loadp M (by rfl) _ rfl rtX _ rfl (by first | exact .head _) (by rfl) (by rfl) ?_)
                      | ((with_reducible show wpList _ _ _ (Oper.mk _ (Op.load 38 (Operand.tmp 35)) _ _ _ _ :: _) _ _); refine wpList_loadp M (by rfl) _ rfl rtX _ rfl (by first | exact .head _) (by rfl) (by rfl) ?_)
                      | ((with_reducible show wpList _ _ _ (Oper.mk _ (Op.load 38 (Operand.tmp 79)) _ _ _ _ :: _) _ _); refine wpList_loadp M (by rfl) _ rfl rtX _ rfl (by first | exact .head _) (by rfl) (by rfl) ?_)
                      | ((with_reducible show wpList _ _ _ (Oper.mk _ (Op.load 38 (Operand.tmp 85)) _ _ _ _ :: _) _ _); refine wpList_loadp M (by rfl) _ rfl rtX _ rfl (by first | exact .head _) (by rfl) (by rfl) ?_)
                      | ((with_reducible show wpList _ _ _ (Oper.mk _ (Op.binOp BinOp.eql 38 _ _ 38) _ _ _ _ :: _) _ _); refine wpList_value (by first | rfl | go_simp) _ ((E.exec_eql23 rfl ⟨h1, v1, o1, g1⟩ E.EX.z rfl rfl _).trans (congrArg (fun b => Result.ok (Next.value (Value.bool b)) _) HE1.out)) ?_)
                      | ((with_reducible show wpList _ _ _ (Oper.mk _ (Op.binOp BinOp.eql 38 _ _ 38) _ _ _ _ :: _) _ _); refine wpList_value (by first | rfl | go_simp) _ ((E.exec_eql23 rfl ⟨h2, v2, o2, g2⟩ E.EX.z rfl rfl _).trans (congrArg (fun b => Result.ok (Next.value (Value.bool b)) _) HE2.out)) ?_)
                      | ((with_reducible show wpList _ _ _ (Oper.mk _ (Op.load 4 _) _ _ _ _ :: _) _ _); refine wpList_cell4 M (by rfl) _ rfl _ rfl (by first | exact .head _) rfl ?_)
                      | ((with_reducible show wpList _ _ _ (Oper.mk _ (Op.load 2 _) _ _ _ _ :: _) _ _); refine wpList_cell2 M (by rfl) _ rfl _ rfl (by first | exact .head _) rfl ?_)
                      | ((with_reducible show wpList _ _ _ (Oper.mk _ (Op.load 3 _) _ _ _ _ :: _) _ _); refine wpList_cell3 M (by rfl) _ rfl _ rfl (by first | exact .head _) rfl ?_)
                      | (go_at_call 22; refine (K0 _).mono ?_; clear K0; rintro e W2 ⟨rfl, rfl⟩)
                      | (go_at_call 15; refine (K1 _).mono ?_; clear K1; rintro e W2 ⟨rfl, b1⟩; replace M := M.later b1; clear b1)
                      | (go_at_call 15; refine (K2 _).mono ?_; clear K2; rintro e W2 ⟨rfl, b1⟩; replace M := M.later b1; clear b1))
                go_ret
                exact ⟨ret_bool HF.out.symm, M.below⟩
              | true =>
                cases f0 with
                | false =>
                  exact absurd (FZ0.out rfl) (by decide)
                | true =>
                  cases k4 with
                  | false =>
                    have q1 := FZ1.out rfl
                    have q2 := FZ2.out rfl
                    subst q1 q2
                    have HV := HO.out.trans (show _ = true from by simp [okB])
                    go_wp2_with (first
                          | ((with_reducible show wpList _ _ _ (Oper.mk _ (Op.load 49 (Operand.tmp 28)) _ _ _ _ :: _) _ _); refine wpList_load35w (by rfl) _ rfl b (off + i * 16) _ _ _ _ _ _ _ _ _ _ _ _ _ _ _ _ rfl (KR _ M.below) ?_)
                          | ((with_reducible show wpList _ _ _ (Oper.mk (some 6) (Op.alloc 49) _ _ _ _ :: _) _ _); refine wpList_alloc M rfl rfl rtT ?_; clear M; intro k6 W M)
                          | ((with_reducible show wpList _ _ _ (Oper.mk _ (Op.store 49 _ _) _ _ _ _ :: _) _ _); (first | (refine wpList_put M rfl _ _ rfl rtT 0 _ rfl rfl rfl rfl rfl (by simp [Value.oneCell']) ?_)); clear M; intro W M; simp only [List.set_cons_zero, List.set_cons_succ] at M)
                          | ((with_reducible show wpList _ _ _ (Oper.mk _ (Op.load 38 (Operand.tmp 30)) _ _ _ _ :: _) _ _); refine wpList_loadp M (by rfl) _ rfl rtX _ rfl (by first | exact .head _) (by rfl) (by rfl) ?_)
                          | ((with_reducible show wpList _ _ _ (Oper.mk _ (Op.load 38 (Operand.tmp 35)) _ _ _ _ :: _) _ _); refine wpList_loadp M (by rfl) _ rfl rtX _ rfl (by first | exact .head _) (by rfl) (by rfl) ?_)
                          | ((with_reducible show wpList _ _ _ (Oper.mk _ (Op.load 38 (Operand.tmp 79)) _ _ _ _ :: _) _ _); refine wpList_loadp M (by rfl) _ rfl rtX _ rfl (by first | exact .head _) (by rfl) (by rfl) ?_)
                          | ((with_reducible show wpList _ _ _ (Oper.mk _ (Op.load 38 (Operand.tmp 85)) _ _ _ _ :: _) _ _); refine wpList_loadp M (by rfl) _ rfl rtX _ rfl (by first | exact .head _) (by rfl) (by rfl) ?_)
                          | ((with_reducible show wpList _ _ _ (Oper.mk _ (Op.binOp BinOp.eql 38 _ _ 38) _ _ _ _ :: _) _ _); refine wpList_value (by first | rfl | go_simp) _ ((E.exec_eql23 rfl ⟨h1, v1, o1, g1⟩ E.EX.z rfl rfl _).trans (congrArg (fun b => Result.ok (Next.value (Value.bool b)) _) HE1.out)) ?_)
                          | ((with_reducible show wpList _ _ _ (Oper.mk _ (Op.binOp BinOp.eql 38 _ _ 38) _ _ _ _ :: _) _ _); refine wpList_value (by first | rfl | go_simp) _ ((E.exec_eql23 rfl ⟨h2, v2, o2, g2⟩ E.EX.z rfl rfl _).trans (congrArg (fun b => Result.ok (Next.value (Value.bool b)) _) HE2.out)) ?_)
                          | ((with_reducible show wpList _ _ _ (Oper.mk _ (Op.load 4 _) _ _ _ _ :: _) _ _); refine wpList_cell4 M (by rfl) _ rfl _ rfl (by first | exact .head _) rfl ?_)
                          | ((with_reducible show wpList _ _ _ (Oper.mk _ (Op.load 2 _) _ _ _ _ :: _) _ _); refine wpList_cell2 M (by rfl) _ rfl _ rfl (by first | exact .head _) rfl ?_)
                          | ((with_reducible show wpList _ _ _ (Oper.mk _ (Op.load 3 _) _ _ _ _ :: _) _ _); refine wpList_cell3 M (by rfl) _ rfl _ rfl (by first | exact .head _) rfl ?_)
                          | (go_at_call 22; refine (K0 _).mono ?_; clear K0; rintro e W2 ⟨rfl, rfl⟩)
                          | (go_at_call 15; refine (K1 _).mono ?_; clear K1; rintro e W2 ⟨rfl, b1⟩; replace M := M.later b1; clear b1)
                          | (go_at_call 15; refine (K2 _).mono ?_; clear K2; rintro e W2 ⟨rfl, b1⟩; replace M := M.later b1; clear b1))
                    go_roundg (gk - 1)
                    case measure => have := HI.out; omega
                    case rel => exact ⟨i + 1, by first | rfl | go_num, by have := HI.out; omega, M.tail, HOKN.out HV⟩
                  | true =>
                    have q1 := FZ1.out rfl
                    have q2 := FZ2.out rfl
                    subst q1 q2
                    have HV := HO.out.trans (show _ = true from by simp [okB])
                    go_wp2_with (first
                          | ((with_reducible show wpList _ _ _ (Oper.mk _ (Op.load 49 (Operand.tmp 28)) _ _ _ _ :: _) _ _); refine wpList_load35w (by rfl) _ rfl b (off + i * 16) _ _ _ _ _ _ _ _ _ _ _ _ _ _ _ _ rfl (KR _ M.below) ?_)
                          | ((with_reducible show wpList _ _ _ (Oper.mk (some 6) (Op.alloc 49) _ _ _ _ :: _) _ _); refine wpList_alloc M rfl rfl rtT ?_; clear M; intro k6 W M)
                          | ((with_reducible show wpList _ _ _ (Oper.mk _ (Op.store 49 _ _) _ _ _ _ :: _) _ _); (first | (refine wpList_put M rfl _ _ rfl rtT 0 _ rfl rfl rfl rfl rfl (by simp [Value.oneCell']) ?_)); clear M; intro W M; simp only [List.set_cons_zero, List.set_cons_succ] at M)
                          | ((with_reducible show wpList _ _ _ (Oper.mk _ (Op.load 38 (Operand.tmp 30)) _ _ _ _ :: _) _ _); refine wpList_loadp M (by rfl) _ rfl rtX _ rfl (by first | exact .head _) (by rfl) (by rfl) ?_)
                          | ((with_reducible show wpList _ _ _ (Oper.mk _ (Op.load 38 (Operand.tmp 35)) _ _ _ _ :: _) _ _); refine wpList_loadp M (by rfl) _ rfl rtX _ rfl (by first | exact .head _) (by rfl) (by rfl) ?_)
                          | ((with_reducible show wpList _ _ _ (Oper.mk _ (Op.load 38 (Operand.tmp 79)) _ _ _ _ :: _) _ _); refine wpList_loadp M (by rfl) _ rfl rtX _ rfl (by first | exact .head _) (by rfl) (by rfl) ?_)
                          | ((with_reducible show wpList _ _ _ (Oper.mk _ (Op.load 38 (Operand.tmp 85)) _ _ _ _ :: _) _ _); refine wpList_loadp M (by rfl) _ rfl rtX _ rfl (by first | exact .head _) (by rfl) (by rfl) ?_)
                          | ((with_reducible show wpList _ _ _ (Oper.mk _ (Op.binOp BinOp.eql 38 _ _ 38) _ _ _ _ :: _) _ _); refine wpList_value (by first | rfl | go_simp) _ ((E.exec_eql23 rfl ⟨h1, v1, o1, g1⟩ E.EX.z rfl rfl _).trans (congrArg (fun b => Result.ok (Next.value (Value.bool b)) _) HE1.out)) ?_)
                          | ((with_reducible show wpList _ _ _ (Oper.mk _ (Op.binOp BinOp.eql 38 _ _ 38) _ _ _ _ :: _) _ _); refine wpList_value (by first | rfl | go_simp) _ ((E.exec_eql23 rfl ⟨h2, v2, o2, g2⟩ E.EX.z rfl rfl _).trans (congrArg (fun b => Result.ok (Next.value (Value.bool b)) _) HE2.out)) ?_)
                          | ((with_reducible show wpList _ _ _ (Oper.mk _ (Op.load 4 _) _ _ _ _ :: _) _ _); refine wpList_cell4 M (by rfl) _ rfl _ rfl (by first | exact .head _) rfl ?_)
                          | ((with_reducible show wpList _ _ _ (Oper.mk _ (Op.load 2 _) _ _ _ _ :: _) _ _); refine wpList_cell2 M (by rfl) _ rfl _ rfl (by first | exact .head _) rfl ?_)
                          | ((with_reducible show wpList _ _ _ (Oper.mk _ (Op.load 3 _) _ _ _ _ :: _) _ _); refine wpList_cell3 M (by rfl) _ rfl _ rfl (by first | exact .head _) rfl ?_)
                          | (go_at_call 22; refine (K0 _).mono ?_; clear K0; rintro e W2 ⟨rfl, rfl⟩)
                          | (go_at_call 15; refine (K1 _).mono ?_; clear K1; rintro e W2 ⟨rfl, b1⟩; replace M := M.later b1; clear b1)
                          | (go_at_call 15; refine (K2 _).mono ?_; clear K2; rintro e W2 ⟨rfl, b1⟩; replace M := M.later b1; clear b1))
                    go_roundg (gk - 1)
                    case measure => have := HI.out; omega
                    case rel => exact ⟨i + 1, by first | rfl | go_num, by have := HI.out; omega, M.tail, HOKN.out HV⟩
            | true =>
              have HF : Hid (R = false) := HBAD.out (HO.out.trans (by simp [okB]))
              go_wp2_with (first
                    | ((with_reducible show wpList _ _ _ (Oper.mk _ (Op.load 49 (Operand.tmp 28)) _ _ _ _ :: _) _ _); refine wpList_load35w (by rfl) _ rfl b (off + i * 16) _ _ _ _ _ _ _ _ _ _ _ _ _ _ _ _ rfl (KR _ M.below) ?_)
                    | ((with_reducible show wpList _ _ _ (Oper.mk (some 6) (Op.alloc 49) _ _ _ _ :: _) _ _); refine wpList_alloc M rfl rfl rtT ?_; clear M; intro k6 W M)
                    | ((with_reducible show wpList _ _ _ (Oper.mk _ (Op.store 49 _ _) _ _ _ _ :: _) _ _); (first | (refine wpList_put M rfl _ _ rfl rtT 0 _ rfl rfl rfl rfl rfl (by simp [Value.oneCell']) ?_)); clear M; intro W M; simp only [List.set_cons_zero, List.set_cons_succ] at M)
                    | ((with_reducible show wpList _ _ _ (Oper.mk _ (Op.load 38 (Operand.tmp 30)) _ _ _ _ :: _) _ _); refine wpList_loadp M (by rfl) _ rfl rtX _ rfl (by first | exact .head _) (by rfl) (by rfl) ?_)
                    | ((with_reducible show wpList _ _ _ (Oper.mk _ (Op.load 38 (Operand.tmp 35)) _ _ _ _ :: _) _ _); refine wpList_loadp M (by rfl) _ rfl rtX _ rfl (by first | exact .head _) (by rfl) (by rfl) ?_)
                    | ((with_reducible show wpList _ _ _ (Oper.mk _ (Op.load 38 (Operand.tmp 79)) _ _ _ _ :: _) _ _); refine wpList_loadp M (by rfl) _ rfl rtX _ rfl (by first | exact .head _) (by rfl) (by rfl) ?_)
                    | ((with_reducible show wpList _ _ _ (Oper.mk _ (Op.load 38 (Operand.tmp 85)) _ _ _ _ :: _) _ _); refine wpList_loadp M (by rfl) _ rfl rtX _ rfl (by first | exact .head _) (by rfl) (by rfl) ?_)
                    | ((with_reducible show wpList _ _ _ (Oper.mk _ (Op.binOp BinOp.eql 38 _ _ 38) _ _ _ _ :: _) _ _); refine wpList_value (by first | rfl | go_simp) _ ((E.exec_eql23 rfl ⟨h1, v1, o1, g1⟩ E.EX.z rfl rfl _).trans (congrArg (fun b => Result.ok (Next.value (Value.bool b)) _) HE1.out)) ?_)
                    | ((with_reducible show wpList _ _ _ (Oper.mk _ (Op.binOp BinOp.eql 38 _ _ 38) _ _ _ _ :: _) _ _); refine wpList_value (by first | rfl | go_simp) _ ((E.exec_eql23 rfl ⟨h2, v2, o2, g2⟩ E.EX.z rfl rfl _).trans (congrArg (fun b => Result.ok (Next.value (Value.bool b)) _) HE2.out)) ?_)
                    | ((with_reducible show wpList _ _ _ (Oper.mk _ (Op.load 4 _) _ _ _ _ :: _) _ _); refine wpList_cell4 M (by rfl) _ rfl _ rfl (by first | exact .head _) rfl ?_)
                    | ((with_reducible show wpList _ _ _ (Oper.mk _ (Op.load 2 _) _ _ _ _ :: _) _ _); refine wpList_cell2 M (by rfl) _ rfl _ rfl (by first | exact .head _) rfl ?_)
                    | ((with_reducible show wpList _ _ _ (Oper.mk _ (Op.load 3 _) _ _ _ _ :: _) _ _); refine wpList_cell3 M (by rfl) _ rfl _ rfl (by first | exact .head _) rfl ?_)
                    | (go_at_call 22; refine (K0 _).mono ?_; clear K0; rintro e W2 ⟨rfl, rfl⟩)
                    | (go_at_call 15; refine (K1 _).mono ?_; clear K1; rintro e W2 ⟨rfl, b1⟩; replace M := M.later b1; clear b1)
                    | (go_at_call 15; refine (K2 _).mono ?_; clear K2; rintro e W2 ⟨rfl, b1⟩; replace M := M.later b1; clear b1))
              go_ret
              exact ⟨ret_bool HF.out.symm, M.below⟩
          | true =>
            cases hv with
            | false =>
              cases zi with
              | false =>
                have HF : Hid (R = false) := HBAD.out (HO.out.trans (by simp [okB]))
                go_wp2_with (first
                      | ((with_reducible show wpList _ _ _ (Oper.mk _ (Op.load 49 (Operand.tmp 28)) _ _ _ _ :: _) _ _); refine wpList_load35w (by rfl) _ rfl b (off + i * 16) _ _ _ _ _ _ _ _ _ _ _ _ _ _ _ _ rfl (KR _ M.below) ?_)
                      | ((with_reducible show wpList _ _ _ (Oper.mk (some 6) (Op.alloc 49) _ _ _ _ :: _) _ _); refine wpList_alloc M rfl rfl rtT ?_; clear M; intro k6 W M)
                      | ((with_reducible show wpList _ _ _ (Oper.mk _ (Op.store 49 _ _) _ _ _ _ :: _) _ _); (first | (refine wpList_put M rfl _ _ rfl rtT 0 _ rfl rfl rfl rfl rfl (by simp [Value.oneCell']) ?_)); clear M; intro W M; simp only [List.set_cons_zero, List.set_cons_succ] at M)
                      | ((with_reducible show wpList _ _ _ (Oper.mk _ (Op.load 38 (Operand.tmp 30)) _ _ _ _ :: _) _ _); refine wpList_loadp M (by rfl) _ rfl rtX _ rfl (by first | exact .head _) (by rfl) (by rfl) ?_)
                      | ((with_reducible show wpList _ _ _ (Oper.mk _ (Op.load 38 (Operand.tmp 35)) _ _ _ _ :: _) _ _); refine wpList_loadp M (by rfl) _ rfl rtX _ rfl (by first | exact .head _) (by rfl) (by rfl) ?_)
                      | ((with_reducible show wpList _ _ _ (Oper.mk _ (Op.load 38 (Operand.tmp 79)) _ _ _ _ :: _) _ _); refine wpList_loadp M (by rfl) _ rfl rtX _ rfl (by first | exact .head _) (by rfl) (by rfl) ?_)
                      | ((with_reducible show wpList _ _ _ (Oper.mk _ (Op.load 38 (Operand.tmp 85)) _ _ _ _ :: _) _ _); refine wpList_loadp M (by rfl) _ rfl rtX _ rfl (by first | exact .head _) (by rfl) (by rfl) ?_)
                      | ((with_reducible show wpList _ _ _ (Oper.mk _ (Op.binOp BinOp.eql 38 _ _ 38) _ _ _ _ :: _) _ _); refine wpList_value (by first | rfl | go_simp) _ ((E.exec_eql23 rfl ⟨h1, v1, o1, g1⟩ E.EX.z rfl rfl _).trans (congrArg (fun b => Result.ok (Next.value (Value.bool b)) _) HE1.out)) ?_)
                      | ((with_reducible show wpList _ _ _ (Oper.mk _ (Op.binOp BinOp.eql 38 _ _ 38) _ _ _ _ :: _) _ _); refine wpList_value (by first | rfl | go_simp) _ ((E.exec_eql23 rfl ⟨h2, v2, o2, g2⟩ E.EX.z rfl rfl _).trans (congrArg (fun b => Result.ok (Next.value (Value.bool b)) _) HE2.out)) ?_)
                      | ((with_reducible show wpList _ _ _ (Oper.mk _ (Op.load 4 _) _ _ _ _ :: _) _ _); refine wpList_cell4 M (by rfl) _ rfl _ rfl (by first | exact .head _) rfl ?_)
                      | ((with_reducible show wpList _ _ _ (Oper.mk _ (Op.load 2 _) _ _ _ _ :: _) _ _); refine wpList_cell2 M (by rfl) _ rfl _ rfl (by first | exact .head _) rfl ?_)
                      | ((with_reducible show wpList _ _ _ (Oper.mk _ (Op.load 3 _) _ _ _ _ :: _) _ _); refine wpList_cell3 M (by rfl) _ rfl _ rfl (by first | exact .head _) rfl ?_)
                      | (go_at_call 22; refine (K0 _).mono ?_; clear K0; rintro e W2 ⟨rfl, rfl⟩)
                      | (go_at_call 15; refine (K1 _).mono ?_; clear K1; rintro e W2 ⟨rfl, b1⟩; replace M := M.later b1; clear b1)
                      | (go_at_call 15; refine (K2 _).mono ?_; clear K2; rintro e W2 ⟨rfl, b1⟩; replace M := M.later b1; clear b1))
                go_ret
                exact ⟨ret_bool HF.out.symm, M.below⟩
              | true =>
                cases f0 with
                | false =>
                  have HF : Hid (R = false) := HBAD.out (HO.out.trans (by simp [okB]))
                  go_wp2_with (first
                        | ((with_reducible show wpList _ _ _ (Oper.mk _ (Op.load 49 (Operand.tmp 28)) _ _ _ _ :: _) _ _); refine wpList_load35w (by rfl) _ rfl b (off + i * 16) _ _ _ _ _ _ _ _ _ _ _ _ _ _ _ _ rfl (KR _ M.below) ?_)
                        | ((with_reducible show wpList _ _ _ (Oper.mk (some 6) (Op.alloc 49) _ _ _ _ :: _) _ _); refine wpList_alloc M rfl rfl rtT ?_; clear M; intro k6 W M)
                        | ((with_reducible show wpList _ _ _ (Oper.mk _ (Op.store 49 _ _) _ _ _ _ :: _) _ _); (first | (refine wpList_put M rfl _ _ rfl rtT 0 _ rfl rfl rfl rfl rfl (by simp [Value.oneCell']) ?_)); clear M; intro W M; simp only [List.set_cons_zero, List.set_cons_succ] at M)
                        | ((with_reducible show wpList _ _ _ (Oper.mk _ (Op.load 38 (Operand.tmp 30)) _ _ _ _ :: _) _ _); refine wpList_loadp M (by rfl) _ rfl rtX _ rfl (by first | exact .head _) (by rfl) (by rfl) ?_)
                        | ((with_reducible show wpList _ _ _ (Oper.mk _ (Op.load 38 (Operand.tmp 35)) _ _ _ _ :: _) _ _); refine wpList_loadp M (by rfl) _ rfl rtX _ rfl (by first | exact .head _) (by rfl) (by rfl) ?_)
                        | ((with_reducible show wpList _ _ _ (Oper.mk _ (Op.load 38 (Operand.tmp 79)) _ _ _ _ :: _) _ _); refine wpList_loadp M (by rfl) _ rfl rtX _ rfl (by first | exact .head _) (by rfl) (by rfl) ?_)
                        | ((with_reducible show wpList _ _ _ (Oper.mk _ (Op.load 38 (Operand.tmp 85)) _ _ _ _ :: _) _ _); refine wpList_loadp M (by rfl) _ rfl rtX _ rfl (by first | exact .head _) (by rfl) (by rfl) ?_)
                        | ((with_reducible show wpList _ _ _ (Oper.mk _ (Op.binOp BinOp.eql 38 _ _ 38) _ _ _ _ :: _) _ _); refine wpList_value (by first | rfl | go_simp) _ ((E.exec_eql23 rfl ⟨h1, v1, o1, g1⟩ E.EX.z rfl rfl _).trans (congrArg (fun b => Result.ok (Next.value (Value.bool b)) _) HE1.out)) ?_)
                        | ((with_reducible show wpList _ _ _ (Oper.mk _ (Op.binOp BinOp.eql 38 _ _ 38) _ _ _ _ :: _) _ _); refine wpList_value (by first | rfl | go_simp) _ ((E.exec_eql23 rfl ⟨h2, v2, o2, g2⟩ E.EX.z rfl rfl _).trans (congrArg (fun b => Result.ok (Next.value (Value.bool b)) _) HE2.out)) ?_)
                        | ((with_reducible show wpList _ _ _ (Oper.mk _ (Op.load 4 _) _ _ _ _ :: _) _ _); refine wpList_cell4 M (by rfl) _ rfl _ rfl (by first | exact .head _) rfl ?_)
                        | ((with_reducible show wpList _ _ _ (Oper.mk _ (Op.load 2 _) _ _ _ _ :: _) _ _); refine wpList_cell2 M (by rfl) _ rfl _ rfl (by first | exact .head _) rfl ?_)
                        | ((with_reducible show wpList _ _ _ (Oper.mk _ (Op.load 3 _) _ _ _ _ :: _) _ _); refine wpList_cell3 M (by rfl) _ rfl _ rfl (by first | exact .head _) rfl ?_)
                        | (go_at_call 22; refine (K0 _).mono ?_; clear K0; rintro e W2 ⟨rfl, rfl⟩)
                        | (go_at_call 15; refine (K1 _).mono ?_; clear K1; rintro e W2 ⟨rfl, b1⟩; replace M := M.later b1; clear b1)
                        | (go_at_call 15; refine (K2 _).mono ?_; clear K2; rintro e W2 ⟨rfl, b1⟩; replace M := M.later b1; clear b1))
                  go_ret
                  exact ⟨ret_bool HF.out.symm, M.below⟩
                | true =>
                  cases k4 with
                  | false =>
                    have q1 := FZ1.out rfl
                    have q2 := FZ2.out rfl
                    subst q1 q2
                    have HV := HO.out.trans (show _ = true from by simp [okB])
                    go_wp2_with (first
                          | ((with_reducible show wpList _ _ _ (Oper.mk _ (Op.load 49 (Operand.tmp 28)) _ _ _ _ :: _) _ _); refine wpList_load35w (by rfl) _ rfl b (off + i * 16) _ _ _ _ _ _ _ _ _ _ _ _ _ _ _ _ rfl (KR _ M.below) ?_)
                          | ((with_reducible show wpList _ _ _ (Oper.mk (some 6) (Op.alloc 49) _ _ _ _ :: _) _ _); refine wpList_alloc M rfl rfl rtT ?_; clear M; intro k6 W M)
                          | ((with_reducible show wpList _ _ _ (Oper.mk _ (Op.store 49 _ _) _ _ _ _ :: _) _ _); (first | (refine wpList_put M rfl _ _ rfl rtT 0 _ rfl rfl rfl rfl rfl (by simp [Value.oneCell']) ?_)); clear M; intro W M; simp only [List.set_cons_zero, List.set_cons_succ] at M)
                          | ((with_reducible show wpList _ _ _ (Oper.mk _ (Op.load 38 (Operand.tmp 30)) _ _ _ _ :: _) _ _); refine wpList_loadp M (by rfl) _ rfl rtX _ rfl (by first | exact .head _) (by rfl) (by rfl) ?_)
                          | ((with_reducible show wpList _ _ _ (Oper.mk _ (Op.load 38 (Operand.tmp 35)) _ _ _ _ :: _) _ _); refine wpList_loadp M (by rfl) _ rfl rtX _ rfl (by first | exact .head _) (by rfl) (by rfl) ?_)
                          | ((with_reducible show wpList _ _ _ (Oper.mk _ (Op.load 38 (Operand.tmp 79)) _ _ _ _ :: _) _ _); refine wpList_loadp M (by rfl) _ rfl rtX _ rfl (by first | exact .head _) (by rfl) (by rfl) ?_)
                          | ((with_reducible show wpList _ _ _ (Oper.mk _ (Op.load 38 (Operand.tmp 85)) _ _ _ _ :: _) _ _); refine wpList_loadp M (by rfl) _ rfl rtX _ rfl (by first | exact .head _) (by rfl) (by rfl) ?_)
                          | ((with_reducible show wpList _ _ _ (Oper.mk _ (Op.binOp BinOp.eql 38 _ _ 38) _ _ _ _ :: _) _ _); refine wpList_value (by first | rfl | go_simp) _ ((E.exec_eql23 rfl ⟨h1, v1, o1, g1⟩ E.EX.z rfl rfl _).trans (congrArg (fun b => Result.ok (Next.value (Value.bool b)) _) HE1.out)) ?_)
                          | ((with_reducible show wpList _ _ _ (Oper.mk _ (Op.binOp BinOp.eql 38 _ _ 38) _ _ _ _ :: _) _ _); refine wpList_value (by first | rfl | go_simp) _ ((E.exec_eql23 rfl ⟨h2, v2, o2, g2⟩ E.EX.z rfl rfl _).trans (congrArg (fun b => Result.ok (Next.value (Value.bool b)) _) HE2.out)) ?_)
                          | ((with_reducible show wpList _ _ _ (Oper.mk _ (Op.load 4 _) _ _ _ _ :: _) _ _); refine wpList_cell4 M (by rfl) _ rfl _ rfl (by first | exact .head _) rfl ?_)
                          | ((with_reducible show wpList _ _ _ (Oper.mk _ (Op.load 2 _) _ _ _ _ :: _) _ _); refine wpList_cell2 M (by rfl) _ rfl _ rfl (by first | exact .head _) rfl ?_)
                          | ((with_reducible show wpList _ _ _ (Oper.mk _ (Op.load 3 _) _ _ _ _ :: _) _ _); refine wpList_cell3 M (by rfl) _ rfl _ rfl (by first | exact .head _) rfl ?_)
                          | (go_at_call 22; refine (K0 _).mono ?_; clear K0; rintro e W2 ⟨rfl, rfl⟩)
                          | (go_at_call 15; refine (K1 _).mono ?_; clear K1; rintro e W2 ⟨rfl, b1⟩; replace M := M.later b1; clear b1)
                          | (go_at_call 15; refine (K2 _).mono ?_; clear K2; rintro e W2 ⟨rfl, b1⟩; replace M := M.later b1; clear b1))
                    go_roundg (gk - 1)
                    case measure => have := HI.out; omega
                    case rel => exact ⟨i + 1, by first | rfl | go_num, by have := HI.out; omega, M.tail, HOKN.out HV⟩
                  | true =>
                    have q1 := FZ1.out rfl
                    have q2 := FZ2.out rfl
                    subst q1 q2
                    have HV := HO.out.trans (show _ = true from by simp [okB])
                    go_wp2_with (first
                          | ((with_reducible show wpList _ _ _ (Oper.mk _ (Op.load 49 (Operand.tmp 28)) _ _ _ _ :: _) _ _); refine wpList_load35w (by rfl) _ rfl b (off + i * 16) _ _ _ _ _ _ _ _ _ _ _ _ _ _ _ _ rfl (KR _ M.below) ?_)
                          | ((with_reducible show wpList _ _ _ (Oper.mk (some 6) (Op.alloc 49) _ _ _ _ :: _) _ _); refine wpList_alloc M rfl rfl rtT ?_; clear M; intro k6 W M)
                          | ((with_reducible show wpList _ _ _ (Oper.mk _ (Op.store 49 _ _) _ _ _ _ :: _) _ _); (first | (refine wpList_put M rfl _ _ rfl rtT 0 _ rfl rfl rfl rfl rfl (by simp [Value.oneCell']) ?_)); clear M; intro W M; simp only [List.set_cons_zero, List.set_cons_succ] at M)
                          | ((with_reducible show wpList _ _ _ (Oper.mk _ (Op.load 38 (Operand.tmp 30)) _ _ _ _ :: _) _ _); refine wpList_loadp M (by rfl) _ rfl rtX _ rfl (by first | exact .head _) (by rfl) (by rfl) ?_)
                          | ((with_reducible show wpList _ _ _ (Oper.mk _ (Op.load 38 (Operand.tmp 35)) _ _ _ _ :: _) _ _); refine wpList_loadp M (by rfl) _ rfl rtX _ rfl (by first | exact .head _) (by rfl) (by rfl) ?_)
                          | ((with_reducible show wpList _ _ _ (Oper.mk _ (Op.load 38 (Operand.tmp 79)) _ _ _ _ :: _) _ _); refine wpList_loadp M (by rfl) _ rfl rtX _ rfl (by first | exact .head _) (by rfl) (by rfl) ?_)
                          | ((with_reducible show wpList _ _ _ (Oper.mk _ (Op.load 38 (Operand.tmp 85)) _ _ _ _ :: _) _ _); refine wpList_loadp M (by rfl) _ rfl rtX _ rfl (by first | exact .head _) (by rfl) (by rfl) ?_)
                          | ((with_reducible show wpList _ _ _ (Oper.mk _ (Op.binOp BinOp.eql 38 _ _ 38) _ _ _ _ :: _) _ _); refine wpList_value (by first | rfl | go_simp) _ ((E.exec_eql23 rfl ⟨h1, v1, o1, g1⟩ E.EX.z rfl rfl _).trans (congrArg (fun b => Result.ok (Next.value (Value.bool b)) _) HE1.out)) ?_)
                          | ((with_reducible show wpList _ _ _ (Oper.mk _ (Op.binOp BinOp.eql 38 _ _ 38) _ _ _ _ :: _) _ _); refine wpList_value (by first | rfl | go_simp) _ ((E.exec_eql23 rfl ⟨h2, v2, o2, g2⟩ E.EX.z rfl rfl _).trans (congrArg (fun b => Result.ok (Next.value (Value.bool b)) _) HE2.out)) ?_)
                          | ((with_reducible show wpList _ _ _ (Oper.mk _ (Op.load 4 _) _ _ _ _ :: _) _ _); refine wpList_cell4 M (by rfl) _ rfl _ rfl (by first | exact .head _) rfl ?_)
                          | ((with_reducible show wpList _ _ _ (Oper.mk _ (Op.load 2 _) _ _ _ _ :: _) _ _); refine wpList_cell2 M (by rfl) _ rfl _ rfl (by first | exact .head _) rfl ?_)
                          | ((with_reducible show wpList _ _ _ (Oper.mk _ (Op.load 3 _) _ _ _ _ :: _) _ _); refine wpList_cell3 M (by rfl) _ rfl _ rfl (by first | exact .head _) rfl ?_)
                          | (go_at_call 22; refine (K0 _).mono ?_; clear K0; rintro e W2 ⟨rfl, rfl⟩)
                          | (go_at_call 15; refine (K1 _).mono ?_; clear K1; rintro e W2 ⟨rfl, b1⟩; replace M := M.later b1; clear b1)
                          | (go_at_call 15; refine (K2 _).mono ?_; clear K2; rintro e W2 ⟨rfl, b1⟩; replace M := M.later b1; clear b1))
                    go_roundg (gk - 1)
                    case measure => have := HI.out; omega
                    case rel => exact ⟨i + 1, by first | rfl | go_num, by have := HI.out; omega, M.tail, HOKN.out HV⟩
            | true =>
              cases f0 with
              | false =>
                have HF : Hid (R = false) := HBAD.out (HO.out.trans (by simp [okB]))
                go_wp2_with (first
                      | ((with_reducible show wpList _ _ _ (Oper.mk _ (Op.load 49 (Operand.tmp 28)) _ _ _ _ :: _) _ _); refine wpList_load35w (by rfl) _ rfl b (off + i * 16) _ _ _ _ _ _ _ _ _ _ _ _ _ _ _ _ rfl (KR _ M.below) ?_)
                      | ((with_reducible show wpList _ _ _ (Oper.mk (some 6) (Op.alloc 49) _ _ _ _ :: _) _ _); refine wpList_alloc M rfl rfl rtT ?_; clear M; intro k6 W M)
                      | ((with_reducible show wpList _ _ _ (Oper.mk _ (Op.store 49 _ _) _ _ _ _ :: _) _ _); (first | (refine wpList_put M rfl _ _ rfl rtT 0 _ rfl rfl rfl rfl rfl (by simp [Value.oneCell']) ?_)); clear M; intro W M; simp only [List.set_cons_zero, List.set_cons_succ] at M)
                      | ((with_reducible show wpList _ _ _ (Oper.mk _ (Op.load 38 (Operand.tmp 30)) _ _ _ _ :: _) _ _); refine wpList_loadp M (by rfl) _ rfl rtX _ rfl (by first | exact .head _) (by rfl) (by rfl) ?_)
                      | ((with_reducible show wpList _ _ _ (Oper.mk _ (Op.load 38 (Operand.tmp 35)) _ _ _ _ :: _) _ _); refine wpList_loadp M (by rfl) _ rfl rtX _ rfl (by first | exact .head _) (by rfl) (by rfl) ?_)
                      | ((with_reducible show wpList _ _ _ (Oper.mk _ (Op.load 38 (Operand.tmp 79)) _ _ _ _ :: _) _ _); refine wpList_loadp M (by rfl) _ rfl rtX _ rfl (by first | exact .head _) (by rfl) (by rfl) ?_)
                      | ((with_reducible show wpList _ _ _ (Oper.mk _ (Op.load 38 (Operand.tmp 85)) _ _ _ _ :: _) _ _); refine wpList_loadp M (by rfl) _ rfl rtX _ rfl (by first | exact .head _) (by rfl) (by rfl) ?_)
                      | ((with_reducible show wpList _ _ _ (Oper.mk _ (Op.binOp BinOp.eql 38 _ _ 38) _ _ _ _ :: _) _ _); refine wpList_value (by first | rfl | go_simp) _ ((E.exec_eql23 rfl ⟨h1, v1, o1, g1⟩ E.EX.z rfl rfl _).trans (congrArg (fun b => Result.ok (Next.value (Value.bool b)) _) HE1.out)) ?_)
                      | ((with_reducible show wpList _ _ _ (Oper.mk _ (Op.binOp BinOp.eql 38 _ _ 38) _ _ _ _ :: _) _ _); refine wpList_value (by first | rfl | go_simp) _ ((E.exec_eql23 rfl ⟨h2, v2, o2, g2⟩ E.EX.z rfl rfl _).trans (congrArg (fun b => Result.ok (Next.value (Value.bool b)) _) HE2.out)) ?_)
                      | ((with_reducible show wpList _ _ _ (Oper.mk _ (Op.load 4 _) _ _ _ _ :: _) _ _); refine wpList_cell4 M (by rfl) _ rfl _ rfl (by first | exact .head _) rfl ?_)
                      | ((with_reducible show wpList _ _ _ (Oper.mk _ (Op.load 2 _) _ _ _ _ :: _) _ _); refine wpList_cell2 M (by rfl) _ rfl _ rfl (by first | exact .head _) rfl ?_)
                      | ((with_reducible show wpList _ _ _ (Oper.mk _ (Op.load 3 _) _ _ _ _ :: _) _ _); refine wpList_cell3 M (by rfl) _ rfl _ rfl (by first | exact .head _) rfl ?_)
                      | (go_at_call 22; refine (K0 _).mono ?_; clear K0; rintro e W2 ⟨rfl, rfl⟩)
                      | (go_at_call 15; refine (K1 _).mono ?_; clear K1; rintro e W2 ⟨rfl, b1⟩; replace M := M.later b1; clear b1)
                      | (go_at_call 15; refine (K2 _).mono ?_; clear K2; rintro e W2 ⟨rfl, b1⟩; replace M := M.later b1; clear b1))
                go_ret
                exact ⟨ret_bool HF.out.symm, M.below⟩
              | true =>
                cases k4 with
                | false =>
                  have q1 := FZ1.out rfl
                  have q2 := FZ2.out rfl
                  subst q1 q2
                  have HV := HO.out.trans (show _ = true from by simp [okB])
                  go_wp2_with (first
                        | ((with_reducible show wpList _ _ _ (Oper.mk _ (Op.load 49 (Operand.tmp 28)) _ _ _ _ :: _) _ _); refine wpList_load35w (by rfl) _ rfl b (off + i * 16) _ _ _ _ _ _ _ _ _ _ _ _ _ _ _ _ rfl (KR _ M.below) ?_)
                        | ((with_reducible show wpList _ _ _ (Oper.mk (some 6) (Op.alloc 49) _ _ _ _ :: _) _ _); refine wpList_alloc M rfl rfl rtT ?_; clear M; intro k6 W M)
                        | ((with_reducible show wpList _ _ _ (Oper.mk _ (Op.store 49 _ _) _ _ _ _ :: _) _ _); (first | (refine wpList_put M rfl _ _ rfl rtT 0 _ rfl rfl rfl rfl rfl (by simp [Value.oneCell']) ?_)); clear M; intro W M; simp only [List.set_cons_zero, List.set_cons_succ] at M)
                        | ((with_reducible show wpList _ _ _ (Oper.mk _ (Op.load 38 (Operand.tmp 30)) _ _ _ _ :: _) _ _); refine wpList_loadp M (by rfl) _ rfl rtX _ rfl (by first | exact .head _) (by rfl) (by rfl) ?_)
                        | ((with_reducible show wpList _ _ _ (Oper.mk _ (Op.load 38 (Operand.tmp 35)) _ _ _ _ :: _) _ _); refine wpList_loadp M (by rfl) _ rfl rtX _ rfl (by first | exact .head _) (by rfl) (by rfl) ?_)
                        | ((with_reducible show wpList _ _ _ (Oper.mk _ (Op.load 38 (Operand.tmp 79)) _ _ _ _ :: _) _ _); refine wpList_loadp M (by rfl) _ rfl rtX _ rfl (by first | exact .head _) (by rfl) (by rfl) ?_)
                        | ((with_reducible show wpList _ _ _ (Oper.mk _ (Op.load 38 (Operand.tmp 85)) _ _ _ _ :: _) _ _); refine wpList_loadp M (by rfl) _ rfl rtX _ rfl (by first | exact .head _) (by rfl) (by rfl) ?_)
                        | ((with_reducible show wpList _ _ _ (Oper.mk _ (Op.binOp BinOp.eql 38 _ _ 38) _ _ _ _ :: _) _ _); refine wpList_value (by first | rfl | go_simp) _ ((E.exec_eql23 rfl ⟨h1, v1, o1, g1⟩ E.EX.z rfl rfl _).trans (congrArg (fun b => Result.ok (Next.value (Value.bool b)) _) HE1.out)) ?_)
                        | ((with_reducible show wpList _ _ _ (Oper.mk _ (Op.binOp BinOp.eql 38 _ _ 38) _ _ _ _ :: _) _ _); refine wpList_value (by first | rfl | go_simp) _ ((E.exec_eql23 rfl ⟨h2, v2, o2, g2⟩ E.EX.z rfl rfl _).trans (congrArg (fun b => Result.ok (Next.value (Value.bool b)) _) HE2.out)) ?_)
                        | ((with_reducible show wpList _ _ _ (Oper.mk _ (Op.load 4 _) _ _ _ _ :: _) _ _); refine wpList_cell4 M (by rfl) _ rfl _ rfl (by first | exact .head _) rfl ?_)
                        | ((with_reducible show wpList _ _ _ (Oper.mk _ (Op.load 2 _) _ _ _ _ :: _) _ _); refine wpList_cell2 M (by rfl) _ rfl _ rfl (by first | exact .head _) rfl ?_)
                        | ((with_reducible show wpList _ _ _ (Oper.mk _ (Op.load 3 _) _ _ _ _ :: _) _ _); refine wpList_cell3 M (by rfl) _ rfl _ rfl (by first | exact .head _) rfl ?_)
                        | (go_at_call 22; refine (K0 _).mono ?_; clear K0; rintro e W2 ⟨rfl, rfl⟩)
                        | (go_at_call 15; refine (K1 _).mono ?_; clear K1; rintro e W2 ⟨rfl, b1⟩; replace M := M.later b1; clear b1)
                        | (go_at_call 15; refine (K2 _).mono ?_; clear K2; rintro e W2 ⟨rfl, b1⟩; replace M := M.later b1; clear b1))
                  go_roundg (gk - 1)
                  case measure => have := HI.out; omega
                  case rel => exact ⟨i + 1, by first | rfl | go_num, by have := HI.out; omega, M.tail, HOKN.out HV⟩
                | true =>
                  have q1 := FZ1.out rfl
                  have q2 := FZ2.out rfl
                  subst q1 q2
                  have HV := HO.out.trans (show _ = true from by simp [okB])
                  go_wp2_with (first
                        | ((with_reducible show wpList _ _ _ (Oper.mk _ (Op.load 49 (Operand.tmp 28)) _ _ _ _ :: _) _ _); refine wpList_load35w (by rfl) _ rfl b (off + i * 16) _ _ _ _ _ _ _ _ _ _ _ _ _ _ _ _ rfl (KR _ M.below) ?_)
                        | ((with_reducible show wpList _ _ _ (Oper.mk (some 6) (Op.alloc 49) _ _ _ _ :: _) _ _); refine wpList_alloc M rfl rfl rtT ?_; clear M; intro k6 W M)
                        | ((with_reducible show wpList _ _ _ (Oper.mk _ (Op.store 49 _ _) _ _ _ _ :: _) _ _); (first | (refine wpList_put M rfl _ _ rfl rtT 0 _ rfl rfl rfl rfl rfl (by simp [Value.oneCell']) ?_)); clear M; intro W M; simp only [List.set_cons_zero, List.set_cons_succ] at M)
                        | ((with_reducible show wpList _ _ _ (Oper.mk _ (Op.load 38 (Operand.tmp 30)) _ _ _ _ :: _) _ _); refine wpList_loadp M (by rfl) _ rfl rtX _ rfl (by first | exact .head _) (by rfl) (by rfl) ?_)
                        | ((with_reducible show wpList _ _ _ (Oper.mk _ (Op.load 38 (Operand.tmp 35)) _ _ _ _ :: _) _ _); refine wpList_loadp M (by rfl) _ rfl rtX _ rfl (by first | exact .head _) (by rfl) (by rfl) ?_)
                        | ((with_reducible show wpList _ _ _ (Oper.mk _ (Op.load 38 (Operand.tmp 79)) _ _ _ _ :: _) _ _); refine wpList_loadp M (by rfl) _ rfl rtX _ rfl (by first | exact .head _) (by rfl) (by rfl) ?_)
                        | ((with_reducible show wpList _ _ _ (Oper.mk _ (Op.load 38 (Operand.tmp 85)) _ _ _ _ :: _) _ _); refine wpList_loadp M (by rfl) _ rfl rtX _ rfl (by first | exact .head _) (by rfl) (by rfl) ?_)
                        | ((with_reducible show wpList _ _ _ (Oper.mk _ (Op.binOp BinOp.eql 38 _ _ 38) _ _ _ _ :: _) _ _); refine wpList_value (by first | rfl | go_simp) _ ((E.exec_eql23 rfl ⟨h1, v1, o1, g1⟩ E.EX.z rfl rfl _).trans (congrArg (fun b => Result.ok (Next.value (Value.bool b)) _) HE1.out)) ?_)
                        | ((with_reducible show wpList _ _ _ (Oper.mk _ (Op.binOp BinOp.eql 38 _ _ 38) _ _ _ _ :: _) _ _); refine wpList_value (by first | rfl | go_simp) _ ((E.exec_eql23 rfl ⟨h2, v2, o2, g2⟩ E.EX.z rfl rfl _).trans (congrArg (fun b => Result.ok (Next.value (Value.bool b)) _) HE2.out)) ?_)
                        | ((with_reducible show wpList _ _ _ (Oper.mk _ (Op.load 4 _) _ _ _ _ :: _) _ _); refine wpList_cell4 M (by rfl) _ rfl _ rfl (by first | exact .head _) rfl ?_)
                        | ((with_reducible show wpList _ _ _ (Oper.mk _ (Op.load 2 _) _ _ _ _ :: _) _ _); refine wpList_cell2 M (by rfl) _ rfl _ rfl (by first | exact .head _) rfl ?_)
                        | ((with_reducible show wpList _ _ _ (Oper.mk _ (Op.load 3 _) _ _ _ _ :: _) _ _); refine wpList_cell3 M (by rfl) _ rfl _ rfl (by first | exact .head _) rfl ?_)
                        | (go_at_call 22; refine (K0 _).mono ?_; clear K0; rintro e W2 ⟨rfl, rfl⟩)
                        | (go_at_call 15; refine (K1 _).mono ?_; clear K1; rintro e W2 ⟨rfl, b1⟩; replace M := M.later b1; clear b1)
                        | (go_at_call 15; refine (K2 _).mono ?_; clear K2; rintro e W2 ⟨rfl, b1⟩; replace M := M.later b1; clear b1))
                  go_roundg (gk - 1)
                  case measure => have := HI.out; omega
                  case rel => exact ⟨i + 1, by first | rfl | go_num, by have := HI.out; omega, M.tail, HOKN.out HV⟩
    case neg =>
      have hiI : ¬ (i : Int) < (n : Int) := by omega
      have HF : Hid (R = true) := HR.out.symm.trans (fit_yes HNd.out HFR.out fun j hj => HA.out j (by rw [HL.out] at hj; omega))
      go_wp2
      go_ret
      exact ⟨ret_bool HF.out.symm, M.below⟩
end Go.Proofs.YtoeebofappbneaaGreat
