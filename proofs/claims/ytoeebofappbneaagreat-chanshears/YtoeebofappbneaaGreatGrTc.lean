/-
  Package chans: Set.
-/
import Derived.Test.YtoeebofappbneaaGreatGrTa
import Derived.Test.YtoeebofappbneaaGreatF1
import Derived.Test.YtoeebofappbneaaGreatGrTb
import Derived.Test.YtoeebofappbneaaGreatC1
import Derived.Test.YtoeebofappbneaaGreatP4
import Derived.Test.YtoeebofappbneaaGreatHeldM
import Derived.Defers
import Derived.Test.YtoeebofappbneaaGreatQ4
import Derived.Test.YtoeebofappbneaaGreatHeld
namespace Go.Proofs.YtoeebofappbneaaGreat
open Go.ChangeShapes Go.WideShapes Go.ChangeAt Go.RowKit Go.Maps Go.Shelf
set_option linter.unusedVariables false
set_option linter.unusedSimpArgs false

theorem fit_no {id : Int} {l : List ST} (h : nodeB id = false) : fitS id l = false := by unfold fitS; rw [h]; rfl
theorem fit_nr {id : Int} {l : List ST} (h : fitsB (recs l) = false) : fitS id l = false := by unfold fitS fitL; rw [h]; simp
theorem fit_ns {id : Int} {l : List ST} {i : Nat} (hi : i < l.length) (h : okS (l.getD i ST.z) = false) : fitS id l = false := by
  cases k : fitS id l with
  | false => rfl
  | true =>
    have := ok_at (fitS_iff.1 k).2 hi
    rw [h] at this
    cases this
theorem fit_yes {id : Int} {l : List ST} (h1 : nodeB id = true) (h2 : fitsB (recs l) = true) (h3 : ∀ j, j < l.length → okS (l.getD j ST.z) = true) : fitS id l = true := by
  rw [fitS_iff, fitL_iff]
  refine ⟨h1, h2, fun s hs => ?_⟩
  obtain ⟨j, hj, rfl⟩ := List.getElem_of_mem hs
  have := h3 j hj
  rwa [List.getD_eq_getElem?_getD, List.getElem?_eq_getElem hj] at this
theorem node_lo {id : Int} (h : id < 0) : nodeB id = false := decide_eq_false (by omega)
theorem node_hi {id : Int} (h : ¬ id < 16) : nodeB id = false := decide_eq_false (by omega)
theorem node_in {id : Int} (h : ¬ id < 0) (k : id < 16) : nodeB id = true := decide_eq_true (by omega)
theorem rd_recs {W : World} {a : Option Addr} {cap n : Nat} {l : List ST} (L : LstC W a (recs l).length cap (recs l)) (h : l.length = n) (hn : n * 136 ≤ 140737488355328) : RdC W a (recs l).length cap (recs l) := L.rd (by rw [recs_len]; omega)
set_option maxRecDepth 100000 in
set_option maxHeartbeats 16000000 in
theorem fit_any7 (id : Int) (a : Option Addr) (n cap : Nat) (l : List ST) (w : World) (hr : RdT w a n cap l) : Calls Tryz.prog 24 #[.int .i64 id, .slice a n cap] w fun e w' => e = .returned (.bool (fitS id l)) ∧ Below w.heap.size w w' := by
  have M := Mem.nil w
  have HN : Hid (n * 136 ≤ 140737488355328) := hr.max
  have HL : Hid (l.length = n) := hr.size
  have KR : ∀ W, Below w.heap.size w W → Calls Tryz.prog 27 #[.slice a n cap] W (Ans W (recs l)) := fun W b => records_any a n cap l W (hr.below b)
  obtain ⟨R, hR⟩ : ∃ R, fitS id l = R := ⟨_, rfl⟩
  have HR : Hid (fitS id l = R) := hR
  rw [hR]
  clear hR
  by_cases c0 : id < 0
  case pos =>
    have HF : Hid (R = false) := HR.out.symm.trans (fit_no (node_lo c0))
    go_enter Tryz.func24, Tryz.ntmps24
    go_wp2
    go_ret
    exact ⟨ret_bool HF.out.symm, Below.refl _ _⟩
  case neg =>
  by_cases c1 : id < 16
  case neg =>
    have HF : Hid (R = false) := HR.out.symm.trans (fit_no (node_hi c1))
    go_enter Tryz.func24, Tryz.ntmps24
    go_wp2
    go_ret
    exact ⟨ret_bool HF.out.symm, Below.refl _ _⟩
  case pos =>
  have HNd : Hid (nodeB id = true) := node_in c0 c1
  obtain ⟨fr, hfr⟩ : ∃ fr, fitsB (recs l) = fr := ⟨_, rfl⟩
  have HFR : Hid (fitsB (recs l) = fr) := hfr
  cases fr with
  | false =>
    have HF : Hid (R = false) := HR.out.symm.trans (fit_nr hfr)
    go_enter Tryz.func24, Tryz.ntmps24
    go_wp2_with (first
      | (go_at_call 27; refine (KR _ M.below).mono ?_; clear KR; rintro e W2 ⟨a2, c2, rfl, L2, o2, b2⟩; replace M := M.later b2; have KF := fits_any a2 _ c2 (recs l) W2 (rd_recs L2 HL.out HN.out); rw [hfr] at KF; clear b2 o2)
      | (go_at_call 46; refine KF.mono ?_; clear KF L2; rintro e W3 ⟨rfl, b3⟩; replace M := M.later b3; clear b3))
    go_ret
    exact ⟨ret_bool HF.out.symm, M.below⟩
  | true =>
  go_enter Tryz.func24, Tryz.ntmps24
  go_wp2_with (first
      | (go_at_call 27; refine (KR _ M.below).mono ?_; clear KR; rintro e W2 ⟨a2, c2, rfl, L2, o2, b2⟩; replace M := M.later b2; have KF := fits_any a2 _ c2 (recs l) W2 (rd_recs L2 HL.out HN.out); rw [hfr] at KF; clear b2 o2)
      | (go_at_call 46; refine KF.mono ?_; clear KF L2; rintro e W3 ⟨rfl, b3⟩; replace M := M.later b3; clear b3))
  clear hfr c0 c1
  go_loopg [6, 21] n (fun gk v6 v21 wr => ∃ i : Nat, v21 = .int .i64 (i : Int) ∧ i + gk = n ∧ Mem w wr [] ∧ Hid (∀ j, j < i → okS (l.getD j ST.z) = true))
  case atStart => exact ⟨0, by first | rfl | go_num, by omega, M, fun j hj => by omega⟩
  case round =>
    clear M
    obtain ⟨i, rfl, hgk, M, HA⟩ := hrel
    by_cases hi : i < n
    case pos =>
      have HI : Hid (i < n) := hi
      have hiI : (i : Int) < (n : Int) := by omega
      have hwr : IntKind.i64.wrap ((i : Int) + 1) = (i : Int) + 1 := by rw [IntKind.wrap_i64]; have := HN.out; omega
      obtain ⟨b, off, rfl, hb1, hd, hra⟩ := hr.at i hi
      obtain ⟨⟨⟨nm, ep, mr, al, kd, sc⟩, hv, iv, ⟨h1, v1, o1, g1⟩, ⟨h2, v2, o2, g2⟩⟩, hri⟩ : ∃ r, l.getD i ST.z = r := ⟨_, rfl⟩
      rw [hri] at hra
      have HX : Hid (l.getD i ST.z = ⟨⟨nm, ep, mr, al, kd, sc⟩, hv, iv, ⟨h1, v1, o1, g1⟩, ⟨h2, v2, o2, g2⟩⟩) := hri
      have KR : ∀ X, Below w.heap.size w X → X.rangeAt b (off + i * 16) (ST.cells ⟨⟨nm, ep, mr, al, kd, sc⟩, hv, iv, ⟨h1, v1, o1, g1⟩, ⟨h2, v2, o2, g2⟩⟩) := fun X h => range_later hra hb1 h
      have HBAD : Hid (okS ⟨⟨nm, ep, mr, al, kd, sc⟩, hv, iv, ⟨h1, v1, o1, g1⟩, ⟨h2, v2, o2, g2⟩⟩ = false → R = false) := fun h => HR.out.symm.trans (fit_ns (i := i) (by rw [HL.out]; exact HI.out) (by rw [HX.out]; exact h))
      have HOKN : Hid (okS ⟨⟨nm, ep, mr, al, kd, sc⟩, hv, iv, ⟨h1, v1, o1, g1⟩, ⟨h2, v2, o2, g2⟩⟩ = true → ∀ j, j < i + 1 → okS (l.getD j ST.z) = true) := fun h j hj => by
        by_cases e : j = i
        · rw [e, HX.out]; exact h
        · exact HA.out j (by omega)
      clear hri hd hi hra
      have KO := fun W => fits_one nm ep mr al kd sc hv iv h1 v1 o1 g1 h2 v2 o2 g2 W
      obtain ⟨OK, hok⟩ : ∃ OK, okS ⟨⟨nm, ep, mr, al, kd, sc⟩, hv, iv, ⟨h1, v1, o1, g1⟩, ⟨h2, v2, o2, g2⟩⟩ = OK := ⟨_, rfl⟩
      have HOK : Hid (okS ⟨⟨nm, ep, mr, al, kd, sc⟩, hv, iv, ⟨h1, v1, o1, g1⟩, ⟨h2, v2, o2, g2⟩⟩ = OK) := hok
      rw [hok] at KO
      clear hok
      cases OK with
      | false =>
        have HF : Hid (R = false) := HBAD.out HOK.out
        go_wp2_with (first
      | ((with_reducible show wpList _ _ _ (Oper.mk _ (Op.load 49 (Operand.tmp 23)) _ _ _ _ :: _) _ _); refine wpList_load35w (by rfl) _ rfl b (off + i * 16) _ _ _ _ _ _ _ _ _ _ _ _ _ _ _ _ rfl (KR _ M.below) ?_)
      | ((with_reducible show wpList _ _ _ (Oper.mk (some 6) (Op.alloc 49) _ _ _ _ :: _) _ _); refine wpList_alloc M rfl rfl rtT ?_; clear M; intro k6 W M)
      | ((with_reducible show wpList _ _ _ (Oper.mk _ (Op.store 49 _ _) _ _ _ _ :: _) _ _); (first | (refine wpList_put M rfl _ _ rfl rtT 0 _ rfl rfl rfl rfl rfl (by simp [Value.oneCell']) ?_)); clear M; intro W M; simp only [List.set_cons_zero, List.set_cons_succ] at M)
      | ((with_reducible show wpList _ _ _ (Oper.mk _ (Op.load 49 _) _ _ _ _ :: _) _ _); refine wpList_load M (by rfl) _ rfl rtT rfl (by first | exact .head _) (by rfl) ?_)
      | (go_at_call 47; refine (KO _).mono ?_; clear KO; rintro e W3 ⟨rfl, b3⟩; replace M := M.later b3; clear b3))
        go_ret
        exact ⟨ret_bool HF.out.symm, M.below⟩
      | true =>
        have HV : Hid (okS ⟨⟨nm, ep, mr, al, kd, sc⟩, hv, iv, ⟨h1, v1, o1, g1⟩, ⟨h2, v2, o2, g2⟩⟩ = true) := HOK.out
        go_wp2_with (first
      | ((with_reducible show wpList _ _ _ (Oper.mk _ (Op.load 49 (Operand.tmp 23)) _ _ _ _ :: _) _ _); refine wpList_load35w (by rfl) _ rfl b (off + i * 16) _ _ _ _ _ _ _ _ _ _ _ _ _ _ _ _ rfl (KR _ M.below) ?_)
      | ((with_reducible show wpList _ _ _ (Oper.mk (some 6) (Op.alloc 49) _ _ _ _ :: _) _ _); refine wpList_alloc M rfl rfl rtT ?_; clear M; intro k6 W M)
      | ((with_reducible show wpList _ _ _ (Oper.mk _ (Op.store 49 _ _) _ _ _ _ :: _) _ _); (first | (refine wpList_put M rfl _ _ rfl rtT 0 _ rfl rfl rfl rfl rfl (by simp [Value.oneCell']) ?_)); clear M; intro W M; simp only [List.set_cons_zero, List.set_cons_succ] at M)
      | ((with_reducible show wpList _ _ _ (Oper.mk _ (Op.load 49 _) _ _ _ _ :: _) _ _); refine wpList_load M (by rfl) _ rfl rtT rfl (by first | exact .head _) (by rfl) ?_)
      | (go_at_call 47; refine (KO _).mono ?_; clear KO; rintro e W3 ⟨rfl, b3⟩; replace M := M.later b3; clear b3))
        go_roundg (gk - 1)
        case measure => have := HI.out; omega
        case rel => exact ⟨i + 1, by first | rfl | go_num, by have := HI.out; omega, M.tail, HOKN.out HV.out⟩
    case neg =>
      have hiI : ¬ (i : Int) < (n : Int) := by omega
      have HF : Hid (R = true) := HR.out.symm.trans (fit_yes HNd.out HFR.out fun j hj => HA.out j (by rw [HL.out] at hj; omega))
      go_wp2
      go_ret
      exact ⟨ret_bool HF.out.symm, M.below⟩
end Go.Proofs.YtoeebofappbneaaGreat

namespace Go.Proofs.YtoeebofappbneaaGreat
open Go.ChangeShapes Go.WideShapes Go.ChangeAt Go.RowKit Go.Maps Go.Shelf
set_option linter.unusedVariables false
set_option linter.unusedSimpArgs false

/-- A new list of states and a value besides. -/
def AnsV (w : World) (l : List ST) (v : Value) (e : Ending) (w' : World) : Prop := ∃ a' cap', e = .returned (.tuple #[.slice a' l.length cap', v]) ∧ LstT w' a' l.length cap' l ∧ (∀ g off, a' = some ⟨g, off, none⟩ → w.heap.size ≤ g) ∧ Below w.heap.size w w'
theorem recs_small {l : List ST} (hf : fitL l = true) : (recs l).length ≤ 8 := by rw [recs_len]; exact fitL_len hf
theorem rd_recs8 {W : World} {a : Option Addr} {cap : Nat} {l : List ST} (hf : fitL l = true) (L : LstC W a (recs l).length cap (recs l)) : RdC W a (recs l).length cap (recs l) := L.rd (by have := recs_small hf; omega)
end Go.Proofs.YtoeebofappbneaaGreat

namespace Go.Proofs.YtoeebofappbneaaGreat
open Go.ChangeShapes Go.WideShapes Go.ChangeAt Go.RowKit Go.Maps Go.Shelf
set_option linter.unusedVariables false
set_option linter.unusedSimpArgs false

set_option maxRecDepth 100000 in
set_option maxHeartbeats 8000000 in
theorem create_anyS (a : Option Addr) (cap : Nat) (l : List ST) (id : Int) (name : ByteArray) (kind scale : Int) (w : World) (hr : RdT w a l.length cap l) (hf : fitL l = true) : Calls Tryz.prog 8 #[.slice a l.length cap, .int .i64 id, .string name, .int .i64 kind, .int .i64 scale] w (AnsV w (crS l id name kind scale) (.int .i64 (crE (recs l) name kind scale))) := by
  have M := Mem.nil w
  have HFL : Hid (fitL l = true) := hf
  have KR : ∀ W, Below w.heap.size w W → Calls Tryz.prog 27 #[.slice a l.length cap] W (Ans W (recs l)) := fun W b => records_any a _ cap l W (hr.below b)
  obtain ⟨LL, hLL⟩ : ∃ LL, crX (recs l) id name kind scale = LL := ⟨_, rfl⟩
  obtain ⟨X, hX⟩ : ∃ X, crE (recs l) name kind scale = X := ⟨_, rfl⟩
  have KL : ∀ (a2 : Option Addr) (c2 : Nat) (W : World), LstC W a2 (recs l).length c2 (recs l) → Calls Tryz.prog 26 #[.slice a2 (recs l).length c2, .int .i64 id, .string name, .int .i64 kind, .int .i64 scale] W (AnsL W LL X) := fun a2 c2 W L2 => by
    have := create_any a2 c2 (recs l) id name kind scale W (rd_recs8 HFL.out L2) (by have := recs_small HFL.out; omega) (fd_ep (fitL_iff.1 HFL.out).1 name)
    rw [← hLL, ← hX]
    exact this
  by_cases h0 : X = 0
  case neg =>
    have hS : crS l id name kind scale = l := if_neg (by rw [hX]; exact h0)
    rw [hS, hX]
    have h0b : (X != 0) = true := by simpa using h0
    clear hLL hX hS h0 hf
    go_enter Tryz.func8, Tryz.ntmps8
    go_wp2_with (first
      | (go_at_call 27; refine (KR _ M.below).mono ?_; clear KR; rintro e W1 ⟨a2, c2, rfl, L2, o2, b1⟩; replace M := M.later b1; clear b1 o2; have KLL := KL a2 c2 _ L2; clear KL)
      | (go_at_call 26; refine KLL.mono ?_; clear KLL; rintro e W5 ⟨a3, c3, rfl, L3, o3, b3⟩; replace M := M.later b3; clear b3 o3)
      | (go_at_call 28; refine (copy_any a cap l _ (hr.below M.below)).mono ?_; rintro e W2 ⟨a4, c4, rfl, L4, o4, b4⟩; have hMS := M.below.size; replace M := M.later b4; clear b4))
    exact bodyPost_ret (results_tmp2 rfl _ _ _) rfl ⟨a4, c4, rfl, L4, fun g off e => Nat.le_trans hMS (o4 g off e), M.below⟩
  case pos =>
    have h0' : crE (recs l) name kind scale = 0 := hX.trans h0
    have hS : crS l id name kind scale = anw l (crM (recs l) id name kind scale) := if_pos h0'
    have hI : LL = ins (recs l) (crM (recs l) id name kind scale) := by rw [← hLL]; exact crX_ok (fitL_rise HFL.out) h0'
    have hF : lk name LL = some (crM (recs l) id name kind scale) := by rw [hI]; exact crF HFL.out id name kind scale
    rw [hS, hX]
    subst h0
    obtain ⟨⟨cn, ce, cm, ca, ck, cs⟩, hc⟩ : ∃ c, crM (recs l) id name kind scale = c := ⟨_, rfl⟩
    rw [hc] at hF hI ⊢
    have HLN : Hid (LL.length ≤ 9) := by show _ ≤ _; rw [hI]; have := ins_len (recs l) ⟨cn, ce, cm, ca, ck, cs⟩; have := recs_small HFL.out; omega
    have KF' : ∀ (a3 : Option Addr) (c3 : Nat) W, LstC W a3 LL.length c3 LL → Calls Tryz.prog 29 #[.slice a3 LL.length c3, .string name] W fun e w' => e = .returned (.tuple #[chv cn ce cm ca ck cs, .bool true]) ∧ Below W.heap.size W w' := fun a3 c3 W L3 => by
      have := find_any a3 _ c3 LL name W (L3.rd (by have := HLN.out; omega))
      rw [hF] at this
      exact this
    clear hLL hX hS h0' hf hI hF hc
    go_enter Tryz.func8, Tryz.ntmps8
    go_wp2_with (first
      | (go_at_call 27; refine (KR _ M.below).mono ?_; clear KR; rintro e W1 ⟨a2, c2, rfl, L2, o2, b1⟩; replace M := M.later b1; clear b1 o2; have KLL := KL a2 c2 _ L2; clear KL)
      | (go_at_call 26; refine KLL.mono ?_; clear KLL; rintro e W5 ⟨a3, c3, rfl, L3, o3, b3⟩; replace M := M.later b3; clear b3 o3; have KF := KF' a3 c3; clear KF')
      | (go_at_call 29; refine (KF _ (L3.below (Below.refl _ _))).mono ?_; clear KF; rintro e W6 ⟨rfl, b6⟩; replace M := M.later b6; clear b6)
      | ((with_reducible show wpList _ _ _ (Oper.mk (some 14) (Op.alloc 47) _ _ _ _ :: _) _ _); refine wpList_alloc M rfl rfl rt23 ?_; clear M; intro k14 W M)
      | ((with_reducible show wpList _ _ _ (Oper.mk _ (Op.store 47 _ _) _ _ _ _ :: _) _ _); (first | (refine wpList_put M rfl _ _ rfl rt23 0 _ rfl rfl rfl rfl rfl (by simp [Value.oneCell']) ?_)); clear M; intro W M; simp only [List.set_cons_zero, List.set_cons_succ] at M)
      | ((with_reducible show wpList _ _ _ (Oper.mk _ (Op.load 47 _) _ _ _ _ :: _) _ _); refine wpList_load M (by rfl) _ rfl rt23 rfl (by first | exact .head _) (by rfl) ?_)
      | (go_at_call 30; refine (anew_any a _ cap l cn ce cm ca ck cs _ (hr.below M.below) (by have := fitL_len HFL.out; omega) (fitL_rise HFL.out)).mono ?_; rintro e W2 ⟨a4, c4, rfl, L4, o4, b4⟩; have hMS := M.below.size; replace M := M.later b4; clear b4))
    exact bodyPost_ret (results_tmp2 rfl _ _ _) rfl ⟨a4, c4, rfl, L4, fun g off e => Nat.le_trans hMS (o4 g off e), M.below⟩
set_option maxRecDepth 100000 in
set_option maxHeartbeats 8000000 in
theorem delete_anyS (a : Option Addr) (cap : Nat) (l : List ST) (id : Int) (name : ByteArray) (w : World) (hr : RdT w a l.length cap l) (hf : fitL l = true) : Calls Tryz.prog 11 #[.slice a l.length cap, .int .i64 id, .string name] w (AnsV w (dlS l id name) (.int .i64 (dlE (recs l) name))) := by
  have M := Mem.nil w
  have HFL : Hid (fitL l = true) := hf
  have KR : ∀ W, Below w.heap.size w W → Calls Tryz.prog 27 #[.slice a l.length cap] W (Ans W (recs l)) := fun W b => records_any a _ cap l W (hr.below b)
  obtain ⟨LL, hLL⟩ : ∃ LL, dlX (recs l) id name = LL := ⟨_, rfl⟩
  obtain ⟨X, hX⟩ : ∃ X, dlE (recs l) name = X := ⟨_, rfl⟩
  have KL : ∀ (a2 : Option Addr) (c2 : Nat) (W : World), LstC W a2 (recs l).length c2 (recs l) → Calls Tryz.prog 33 #[.slice a2 (recs l).length c2, .int .i64 id, .string name] W (AnsL W LL X) := fun a2 c2 W L2 => by
    have := delete_any a2 c2 (recs l) id name W (rd_recs8 HFL.out L2) (by have := recs_small HFL.out; omega) (fd_ep (fitL_iff.1 HFL.out).1 name)
    rw [← hLL, ← hX]
    exact this
  by_cases h0 : X = 0
  case neg =>
    have hS : dlS l id name = l := if_neg (by rw [hX]; exact h0)
    rw [hS, hX]
    have h0b : (X != 0) = true := by simpa using h0
    clear hLL hX hS h0 hf
    go_enter Tryz.func11, Tryz.ntmps11
    go_wp2_with (first
      | (go_at_call 27; refine (KR _ M.below).mono ?_; clear KR; rintro e W1 ⟨a2, c2, rfl, L2, o2, b1⟩; replace M := M.later b1; clear b1 o2; have KLL := KL a2 c2 _ L2; clear KL)
      | (go_at_call 33; refine KLL.mono ?_; clear KLL; rintro e W5 ⟨a3, c3, rfl, L3, o3, b3⟩; replace M := M.later b3; clear b3 o3)
      | (go_at_call 28; refine (copy_any a cap l _ (hr.below M.below)).mono ?_; rintro e W2 ⟨a4, c4, rfl, L4, o4, b4⟩; have hMS := M.below.size; replace M := M.later b4; clear b4))
    exact bodyPost_ret (results_tmp2 rfl _ _ _) rfl ⟨a4, c4, rfl, L4, fun g off e => Nat.le_trans hMS (o4 g off e), M.below⟩
  case pos =>
    have h0' : dlE (recs l) name = 0 := hX.trans h0
    have hS : dlS l id name = anw l (dlM (recs l) id name) := if_pos h0'
    have hI : LL = ins (recs l) (dlM (recs l) id name) := by rw [← hLL]; exact dlX_ok (fitL_rise HFL.out) h0'
    have hF : lk name LL = some (dlM (recs l) id name) := by rw [hI]; exact dlF HFL.out id h0'
    rw [hS, hX]
    subst h0
    obtain ⟨⟨cn, ce, cm, ca, ck, cs⟩, hc⟩ : ∃ c, dlM (recs l) id name = c := ⟨_, rfl⟩
    rw [hc] at hF hI ⊢
    have HLN : Hid (LL.length ≤ 9) := by show _ ≤ _; rw [hI]; have := ins_len (recs l) ⟨cn, ce, cm, ca, ck, cs⟩; have := recs_small HFL.out; omega
    have KF' : ∀ (a3 : Option Addr) (c3 : Nat) W, LstC W a3 LL.length c3 LL → Calls Tryz.prog 29 #[.slice a3 LL.length c3, .string name] W fun e w' => e = .returned (.tuple #[chv cn ce cm ca ck cs, .bool true]) ∧ Below W.heap.size W w' := fun a3 c3 W L3 => by
      have := find_any a3 _ c3 LL name W (L3.rd (by have := HLN.out; omega))
      rw [hF] at this
      exact this
    clear hLL hX hS h0' hf hI hF hc
    go_enter Tryz.func11, Tryz.ntmps11
    go_wp2_with (first
      | (go_at_call 27; refine (KR _ M.below).mono ?_; clear KR; rintro e W1 ⟨a2, c2, rfl, L2, o2, b1⟩; replace M := M.later b1; clear b1 o2; have KLL := KL a2 c2 _ L2; clear KL)
      | (go_at_call 33; refine KLL.mono ?_; clear KLL; rintro e W5 ⟨a3, c3, rfl, L3, o3, b3⟩; replace M := M.later b3; clear b3 o3; have KF := KF' a3 c3; clear KF')
      | (go_at_call 29; refine (KF _ (L3.below (Below.refl _ _))).mono ?_; clear KF; rintro e W6 ⟨rfl, b6⟩; replace M := M.later b6; clear b6)
      | ((with_reducible show wpList _ _ _ (Oper.mk (some 10) (Op.alloc 47) _ _ _ _ :: _) _ _); refine wpList_alloc M rfl rfl rt23 ?_; clear M; intro k10 W M)
      | ((with_reducible show wpList _ _ _ (Oper.mk _ (Op.store 47 _ _) _ _ _ _ :: _) _ _); (first | (refine wpList_put M rfl _ _ rfl rt23 0 _ rfl rfl rfl rfl rfl (by simp [Value.oneCell']) ?_)); clear M; intro W M; simp only [List.set_cons_zero, List.set_cons_succ] at M)
      | ((with_reducible show wpList _ _ _ (Oper.mk _ (Op.load 47 _) _ _ _ _ :: _) _ _); refine wpList_load M (by rfl) _ rfl rt23 rfl (by first | exact .head _) (by rfl) ?_)
      | (go_at_call 30; refine (anew_any a _ cap l cn ce cm ca ck cs _ (hr.below M.below) (by have := fitL_len HFL.out; omega) (fitL_rise HFL.out)).mono ?_; rintro e W2 ⟨a4, c4, rfl, L4, o4, b4⟩; have hMS := M.below.size; replace M := M.later b4; clear b4))
    exact bodyPost_ret (results_tmp2 rfl _ _ _) rfl ⟨a4, c4, rfl, L4, fun g off e => Nat.le_trans hMS (o4 g off e), M.below⟩
end Go.Proofs.YtoeebofappbneaaGreat

namespace Go.Proofs.YtoeebofappbneaaGreat
open Go.ChangeShapes Go.WideShapes Go.ChangeAt Go.RowKit Go.Maps Go.Shelf
set_option linter.unusedVariables false
set_option linter.unusedSimpArgs false

theorem flow_rng {a : Int} (h : E.flowB a = true) : -2147483647 ≤ a ∧ a ≤ 2147483647 := of_decide_eq_true h
theorem mul_wrap {a b : Int} (h : E.flowB a = true) (k : E.flowB b = true) : IntKind.i64.wrap (a * b) = a * b := by
  have h1 := flow_rng h
  have k1 := flow_rng k
  have : (a * b).natAbs ≤ 2147483647 * 2147483647 := by rw [Int.natAbs_mul]; exact Nat.mul_le_mul (by omega) (by omega)
  rw [IntKind.wrap_i64]
  omega
theorem checked_any (p : Int) (w : World) : Calls Tryz.prog 117 #[.int .i64 p] w fun e w' => e = .returned (.tuple #[.int .i64 (if E.flowB p = true then p else 0), .int .i64 (if E.flowB p = true then 0 else 10)]) ∧ w' = w := by
  have K := fun W => nfits_any p W
  obtain ⟨f, hf⟩ : ∃ f, E.flowB p = f := ⟨_, rfl⟩
  rw [hf] at K ⊢
  cases f with
  | true =>
    rw [if_pos rfl, if_pos rfl]
    go_enter Tryz.func117, Tryz.ntmps117
    go_wp2_with (go_at_call 82; refine (K _).mono ?_; rintro e W2 ⟨rfl, rfl⟩)
    exact bodyPost_ret (results_tmp2 rfl _ _ _) rfl ⟨rfl, rfl⟩
  | false =>
    rw [if_neg (by decide), if_neg (by decide)]
    go_enter Tryz.func117, Tryz.ntmps117
    go_wp2_with (go_at_call 82; refine (K _).mono ?_; rintro e W2 ⟨rfl, rfl⟩)
    exact bodyPost_ret (results_tmp2 rfl _ _ _) rfl ⟨rfl, rfl⟩
theorem mul_any (a b : Int) (w : World) : Calls Tryz.prog 107 #[.int .i64 a, .int .i64 b] w fun e w' => e = .returned (.tuple #[.int .i64 (mulV a b), .int .i64 (mulE a b)]) ∧ w' = w := by
  have KA := fun W => nfits_any a W
  have KB := fun W => nfits_any b W
  have HV : mulV a b = if mulE a b = 0 then a * b else 0 := rfl
  have HE : mulE a b = if E.flowB a = true ∧ E.flowB b = true ∧ E.flowB (a * b) = true then 0 else 10 := rfl
  obtain ⟨V, hV⟩ : ∃ V, mulV a b = V := ⟨_, rfl⟩
  obtain ⟨X, hX⟩ : ∃ X, mulE a b = X := ⟨_, rfl⟩
  rw [hV, hX]
  rw [hV, hX] at HV
  rw [hX] at HE
  cases ha : E.flowB a with
  | false =>
    rw [ha] at KA HE
    have HE' : X = 10 := HE.trans (if_neg (fun h => by cases h.1))
    have HV' : V = 0 := HV.trans (if_neg (by rw [HE']; decide))
    subst HE' HV'
    clear HE HV hV hX ha
    go_enter Tryz.func107, Tryz.ntmps107
    go_wp2_with (first
      | (go_at_call 82; refine (KA _).mono ?_; rintro e W2 ⟨rfl, rfl⟩))
    exact bodyPost_ret (results_tmp2 rfl _ _ _) rfl ⟨rfl, rfl⟩
  | true =>
  cases hb : E.flowB b with
  | false =>
    rw [ha] at KA
    rw [hb] at KB
    have HE' : X = 10 := HE.trans (if_neg (by rw [hb]; simp))
    have HV' : V = 0 := HV.trans (if_neg (by rw [HE']; decide))
    subst HE' HV'
    clear HE HV hV hX ha hb
    go_enter Tryz.func107, Tryz.ntmps107
    go_wp2_with (first
      | (go_at_call 82; refine (KA _).mono ?_; clear KA; rintro e W2 ⟨rfl, rfl⟩)
      | (go_at_call 82; refine (KB _).mono ?_; clear KB; rintro e W2 ⟨rfl, rfl⟩))
    exact bodyPost_ret (results_tmp2 rfl _ _ _) rfl ⟨rfl, rfl⟩
  | true =>
    have hw := mul_wrap ha hb
    have KC := fun W => checked_any (a * b) W
    rw [ha] at KA
    rw [hb] at KB
    obtain ⟨p, hp⟩ : ∃ p, a * b = p := ⟨_, rfl⟩
    have HE' : (if E.flowB p = true then (0 : Int) else 10) = X := by
      rw [← hp, HE]
      cases hc : E.flowB (a * b) with
      | true => rw [if_pos rfl, if_pos ⟨ha, hb, rfl⟩]
      | false => rw [if_neg (by decide), if_neg (by simp)]
    have HV' : (if E.flowB p = true then p else 0) = V := by
      rw [HV, ← HE', hp]
      cases E.flowB p with
      | true => rfl
      | false => rfl
    rw [hp] at hw KC
    rw [HE', HV'] at KC
    clear HE HV hV hX ha hb HE' HV'
    have HW : Hid (IntKind.i64.wrap (a * b) = p) := by show _ = _; rw [hp]; exact hw
    have hwp : IntKind.i64.wrap (a * b) = p := HW.out
    clear hp hw HW
    go_enter Tryz.func107, Tryz.ntmps107
    go_wp2_with (first
      | (go_at_call 82; refine (KA _).mono ?_; clear KA; rintro e W2 ⟨rfl, rfl⟩)
      | (go_at_call 82; refine (KB _).mono ?_; clear KB; rintro e W2 ⟨rfl, rfl⟩)
      | (go_at_call 117; refine (KC _).mono ?_; clear KC; rintro e W2 ⟨rfl, rfl⟩))
    exact bodyPost_ret (results_tmp2 rfl _ _ _) rfl ⟨rfl, rfl⟩
section
variable {ops : Array Oper} {rest : List Oper} {o : Oper} {A : Act} {w W : World} {l : List Blk} {Q : Exit → Act → World → Prop} {N : Nat} {C : Nat → Prop} {t : TypeId}
theorem wpList_newU (M : MemG N C w W l) (hgd : o.guard = none) {v : Value} (ho : o.op = .alloc t) (hz : ∀ W, (zeroValue t).run Tryz.prog W = .ok v W) (hv : v.cells = #[v])
    (H : ∀ k W', MemG N C w W' ((k, #[v], t) :: l) → wpList Tryz.prog ops Q rest (A.put o.dst (.pointer (some ⟨k, 0, none⟩))) W') : wpList Tryz.prog ops Q (o :: rest) A W := by
  refine wpList_plain hgd fun K hK => ?_
  have MA := M.add #[v] t
  unfold Oper.wp
  rw [exec_new ho hz hv]
  exact hK _ _ (H _ _ MA)
theorem wpList_cell45 (M : MemG N C w W l) (hgd : Region.wanted o (yielded ops A.tmps) = true) (x : Operand) (ho : o.op = .load 26 x) {k i : Nat} {c : Array Value} {T : TypeId} (n : Int) (hx : A.eval x = .pointer (some ⟨k, i, none⟩)) (hk : (k, c, T) ∈ l) (hv : c[i]? = some (.int .i64 n))
    (H : wpList Tryz.prog ops Q rest (A.put o.dst (.int .i64 n)) W) : wpList Tryz.prog ops Q (o :: rest) A W := by
  unfold wpList
  rw [if_pos hgd]
  left
  have hc := row_cell (M.get hk) i _ hv
  unfold Oper.wp execOp
  simp only [ho, hx]
  go_simp
  exact H
theorem wpList_set45 (M : MemG N C w W l) (hgd : o.guard = none) (x y : Operand) (ho : o.op = .store 26 x y) (j : Nat) {k i : Nat} {c : Array Value} {T : TypeId} (n : Int) (v0 : Value) (hi : l[j]? = some (k, c, T)) (hx : A.eval x = .pointer (some ⟨k, i, none⟩)) (hy : A.eval y = .int .i64 n) (hv : c[i]? = some v0)
    (H : ∀ W', MemG N C w W' (l.set j (k, c.setIfInBounds i (.int .i64 n), T)) → wpList Tryz.prog ops Q rest (A.put o.dst undef) W') : wpList Tryz.prog ops Q (o :: rest) A W := by
  have ha : W.heap[k]? = some (.cells c T (0, 0)) := M.get (List.mem_of_getElem? hi)
  refine wpList_plain hgd fun K hK => ?_
  have hc := row_cell ha i _ hv
  have hf := row_free ha i
  unfold Oper.wp execOp
  simp only [ho, hx, hy]
  go_simp
  refine hK _ _ (H _ (M.put j _ hi rfl rfl rfl (by simp [World.setCell]) ?_ (fun q hq => Below.heap_setCell _ _ _ _ hq)))
  exact set_row ha i _
theorem wpList_cell94 (M : MemG N C w W l) (hgd : Region.wanted o (yielded ops A.tmps) = true) (x : Operand) (ho : o.op = .load 95 x) {k i : Nat} {c : Array Value} {T : TypeId} (n : Addr) (hx : A.eval x = .pointer (some ⟨k, i, none⟩)) (hk : (k, c, T) ∈ l) (hv : c[i]? = some (.pointer (some n)))
    (H : wpList Tryz.prog ops Q rest (A.put o.dst (.pointer (some n))) W) : wpList Tryz.prog ops Q (o :: rest) A W := by
  unfold wpList
  rw [if_pos hgd]
  left
  have hc := row_cell (M.get hk) i _ hv
  unfold Oper.wp execOp
  simp only [ho, hx]
  go_simp
  exact H
theorem wpList_set94 (M : MemG N C w W l) (hgd : o.guard = none) (x y : Operand) (ho : o.op = .store 95 x y) (j : Nat) {k i : Nat} {c : Array Value} {T : TypeId} (n : Addr) (v0 : Value) (hi : l[j]? = some (k, c, T)) (hx : A.eval x = .pointer (some ⟨k, i, none⟩)) (hy : A.eval y = .pointer (some n)) (hv : c[i]? = some v0)
    (H : ∀ W', MemG N C w W' (l.set j (k, c.setIfInBounds i (.pointer (some n)), T)) → wpList Tryz.prog ops Q rest (A.put o.dst undef) W') : wpList Tryz.prog ops Q (o :: rest) A W := by
  have ha : W.heap[k]? = some (.cells c T (0, 0)) := M.get (List.mem_of_getElem? hi)
  refine wpList_plain hgd fun K hK => ?_
  have hc := row_cell ha i _ hv
  have hf := row_free ha i
  unfold Oper.wp execOp
  simp only [ho, hx, hy]
  go_simp
  refine hK _ _ (H _ (M.put j _ hi rfl rfl rfl (by simp [World.setCell]) ?_ (fun q hq => Below.heap_setCell _ _ _ _ hq)))
  exact set_row ha i _
end
theorem zero2 (W : World) : (zeroValue 2).run Tryz.prog W = .ok (.int .i64 0) W := by kernel_rfl
theorem zero45 (W : World) : (zeroValue 26).run Tryz.prog W = .ok (.int .i64 0) W := by kernel_rfl
/-- The first error is kept. -/
def keepE (r e : Int) : Int := if r = 0 then e else r
section
variable {N : Nat} {C : Nat → Prop} {w W : World} {l : List Blk}
set_option maxRecDepth 100000 in
set_option maxHeartbeats 4000000 in
theorem fail_any (M : MemG N C w W l) {i k : Nat} {r : Int} (hi : l[i]? = some (k, #[.int .i64 r], 97)) (e : Int) : Calls Tryz.prog 108 #[.pointer (some ⟨k, 0, none⟩), .int .i64 e] W fun en W' => en = .returned (.tuple #[]) ∧ MemG N C w W' (l.set i (k, #[.int .i64 (keepE r e)], 97)) := by
  by_cases h0 : r = 0
  case pos =>
    have HK : Hid (keepE r e = e) := if_pos h0
    subst h0
    rw [HK.out]
    go_enter Tryz.func108, Tryz.ntmps108
    go_wp2_with (first
      | ((with_reducible show wpList _ _ _ (Oper.mk _ (Op.load 26 _) _ _ _ _ :: _) _ _); refine wpList_cell45 M (by rfl) _ rfl _ rfl (List.mem_of_getElem? hi) rfl ?_)
      | ((with_reducible show wpList _ _ _ (Oper.mk _ (Op.store 26 _ _) _ _ _ _ :: _) _ _); refine wpList_set45 M rfl _ _ rfl i _ _ hi rfl rfl rfl ?_; clear M; intro W M; simp only [List.setIfInBounds_toArray, List.set_cons_zero] at M))
    go_end0
    exact ⟨rfl, M⟩
  case neg =>
    have HK : Hid (keepE r e = r) := if_neg h0
    rw [HK.out, set_same hi]
    have h0b : (r == 0) = false := by simpa using h0
    clear h0
    go_enter Tryz.func108, Tryz.ntmps108
    go_wp2_with (first
      | ((with_reducible show wpList _ _ _ (Oper.mk _ (Op.load 26 _) _ _ _ _ :: _) _ _); refine wpList_cell45 M (by rfl) _ rfl _ rfl (List.mem_of_getElem? hi) rfl ?_))
    go_end0
    exact ⟨rfl, M⟩
theorem times_any (M : MemG N C w W l) {i k : Nat} {r : Int} (hi : l[i]? = some (k, #[.int .i64 r], 97)) (a b : Int) : Calls Tryz.prog 90 #[.pointer (some ⟨k, 0, none⟩), .int .i64 a, .int .i64 b] W fun en W' => en = .returned (.int .i64 (mulV a b)) ∧ MemG N C w W' (l.set i (k, #[.int .i64 (keepE r (mulE a b))], 97)) := by
  have KM := fun W => mul_any a b W
  obtain ⟨V, hV⟩ : ∃ V, mulV a b = V := ⟨_, rfl⟩
  obtain ⟨X, hX⟩ : ∃ X, mulE a b = X := ⟨_, rfl⟩
  rw [hV, hX] at KM
  rw [hV, hX]
  clear hV hX
  go_enter Tryz.func90, Tryz.ntmps90
  go_wp2_with (first
      | (go_at_call 107; refine (KM _).mono ?_; clear KM; rintro e W2 ⟨rfl, rfl⟩)
      | (go_at_call 108; refine (fail_any M hi X).mono ?_; rintro e W2 ⟨rfl, M2⟩))
  go_ret
  exact ⟨rfl, M2⟩
theorem plain_anyR (M : MemG N C w W l) {i k : Nat} {r : Int} (hi : l[i]? = some (k, #[.int .i64 r], 97)) (x : Int) : Calls Tryz.prog 95 #[.pointer (some ⟨k, 0, none⟩), .int .i64 x] W fun en W' => en = .returned (.int .i64 x) ∧ MemG N C w W' (l.set i (k, #[.int .i64 (keepE r (if E.flowB x = true then 0 else 10))], 97)) := by
  have KF := fun W => nfits_any x W
  cases hf : E.flowB x with
  | true =>
    rw [hf] at KF
    have HK : keepE r (if true = true then (0 : Int) else 10) = r := by unfold keepE; split; (rename_i h; rw [h]; rfl); rfl
    rw [HK, set_same hi]
    clear hf HK
    go_enter Tryz.func95, Tryz.ntmps95
    go_wp2_with (first
      | (go_at_call 82; refine (KF _).mono ?_; clear KF; rintro e W2 ⟨rfl, rfl⟩))
    go_ret
    exact ⟨rfl, M⟩
  | false =>
    rw [hf] at KF
    have HK : (if false = true then (0 : Int) else 10) = 10 := rfl
    rw [HK]
    clear hf HK
    go_enter Tryz.func95, Tryz.ntmps95
    go_wp2_with (first
      | (go_at_call 82; refine (KF _).mono ?_; clear KF; rintro e W2 ⟨rfl, rfl⟩)
      | (go_at_call 108; refine (fail_any M hi 10).mono ?_; rintro e W2 ⟨rfl, M2⟩))
    go_ret
    exact ⟨rfl, M2⟩
theorem unit_any (M : MemG N C w W l) {i k : Nat} {r : Int} (hi : l[i]? = some (k, #[.int .i64 r], 97)) (x : Int) : Calls Tryz.prog 92 #[.pointer (some ⟨k, 0, none⟩), .int .i64 x] W fun en W' => en = .returned (.int .i64 x) ∧ MemG N C w W' (l.set i (k, #[.int .i64 (keepE r (if x ≠ 0 ∧ x ≠ 1 then 49 else 0))], 97)) := by
  have HK : keepE r 0 = r := by unfold keepE; split; (rename_i h; rw [h]); rfl
  by_cases h0 : x = 0
  case pos =>
    rw [if_neg (fun h => h.1 h0), HK, set_same hi]
    subst h0
    go_enter Tryz.func92, Tryz.ntmps92
    go_wp2
    go_ret
    exact ⟨rfl, M⟩
  case neg =>
  by_cases h1 : x = 1
  case pos =>
    rw [if_neg (fun h => h.2 h1), HK, set_same hi]
    subst h1
    go_enter Tryz.func92, Tryz.ntmps92
    go_wp2
    go_ret
    exact ⟨rfl, M⟩
  case neg =>
    rw [if_pos ⟨h0, h1⟩]
    have h0b : (x != 0) = true := by simpa using h0
    have h1b : (x != 1) = true := by simpa using h1
    clear h0 h1 HK
    go_enter Tryz.func92, Tryz.ntmps92
    go_wp2_with (first
      | (go_at_call 108; refine (fail_any M hi 49).mono ?_; rintro e W2 ⟨rfl, M2⟩))
    go_ret
    exact ⟨rfl, M2⟩
end
end Go.Proofs.YtoeebofappbneaaGreat

namespace Go.Proofs.YtoeebofappbneaaGreat
open Go.ChangeShapes Go.WideShapes Go.ChangeAt Go.RowKit Go.Maps Go.Shelf
set_option linter.unusedVariables false
set_option linter.unusedSimpArgs false

theorem lst_upd {W W' : World} {g off n cap i : Nat} {l : List ST} {s' : ST} {cur cur' : Array Value} (L : LstT W (some ⟨g, off, none⟩) n cap l) (hi : i < n) (h0 : W.heap[g]? = some (.cells cur 49 (0, 0))) (h1 : W'.heap[g]? = some (.cells cur' 49 (0, 0))) (hs : cur'.size = cur.size)
    (h2 : ∀ j, (j < off + i * 16 ∨ off + i * 16 + 16 ≤ j) → cur'[j]? = cur[j]?) (h3 : ∀ r, r < 16 → cur'[off + i * 16 + r]? = s'.cells[r]?) : LstT W' (some ⟨g, off, none⟩) n cap (l.set i s') := by
  have hsz := L.size
  refine ⟨by rw [List.length_set]; exact hsz, L.le, L.max, ?_⟩
  rcases L.mem with ⟨e, _⟩ | ⟨g', off', cur0, e, hh, hc, ht⟩
  · cases e
  · cases e
    rw [h0] at hh
    cases hh
    refine .inr ⟨g, off, cur', rfl, h1, by rw [hs]; exact hc, ?_⟩
    refine List.ext_getElem? fun k => ?_
    rw [List.getElem?_take, List.getElem?_drop, Array.getElem?_toList]
    by_cases hk : k < 16 * n
    · rw [if_pos hk]
      have hq : k / 16 < n := by omega
      have hr : k % 16 < 16 := Nat.mod_lt _ (by decide)
      have hkk : 16 * (k / 16) + k % 16 = k := Nat.div_add_mod k 16
      have hl1 : k / 16 < (l.set i s').length := by rw [List.length_set]; omega
      have e1 := csT_get (l.set i s') (k / 16) (k % 16) _ (List.getElem?_eq_getElem hl1) hr
      rw [hkk] at e1
      rw [e1]
      by_cases hqi : k / 16 = i
      · have e2 : (l.set i s')[k / 16] = s' := by simp [hqi]
        rw [e2, ← h3 (k % 16) hr]
        congr 1
        omega
      · have e2 : (l.set i s')[k / 16] = l[k / 16]'(by omega) := by rw [List.getElem_set_ne (by omega)]
        rw [e2, h2 (off + k) (by omega)]
        have e3 := csT_get l (k / 16) (k % 16) _ (List.getElem?_eq_getElem (show k / 16 < l.length by omega)) hr
        rw [hkk, ← ht, List.getElem?_take, if_pos hk, List.getElem?_drop, Array.getElem?_toList] at e3
        exact e3
    · rw [if_neg hk, List.getElem?_eq_none]
      rw [csT_len, List.length_set]
      omega
theorem lst_cell {W : World} {g off n cap i : Nat} {l : List ST} {cur : Array Value} (L : LstT W (some ⟨g, off, none⟩) n cap l) (hi : i < n) (h0 : W.heap[g]? = some (.cells cur 49 (0, 0))) {r : Nat} (hr : r < 16) : cur[off + i * 16 + r]? = (l.getD i ST.z).cells[r]? := by
  have hsz := L.size
  rcases L.mem with ⟨e, _⟩ | ⟨g', off', cur0, e, hh, hc, ht⟩
  · cases e
  · cases e
    rw [h0] at hh
    cases hh
    have e3 := csT_get l i r _ (get_zT l i (by omega)) hr
    rw [← ht, List.getElem?_take, if_pos (by omega), List.getElem?_drop, Array.getElem?_toList] at e3
    rw [← e3]
    congr 1
    omega
theorem lst_block {W : World} {g off n cap : Nat} {l : List ST} (L : LstT W (some ⟨g, off, none⟩) n cap l) : ∃ cur, W.heap[g]? = some (.cells cur 49 (0, 0)) ∧ off + 16 * n ≤ cur.size := by
  rcases L.mem with ⟨e, _⟩ | ⟨g', off', cur0, e, hh, hc, ht⟩
  · cases e
  · cases e
    exact ⟨_, hh, by have := L.le; rw [hc]; omega⟩
/-- Since w nothing that was there has changed; the list l, whose i-th state is s, lies in a block made since. -/
structure OwnI (w W : World) (g off n cap : Nat) (l : List ST) (i : Nat) (s : ST) : Prop where
  below : Below w.heap.size w W
  ge : w.heap.size ≤ g
  lst : LstT W (some ⟨g, off, none⟩) n cap (l.set i s)
  lt : i < n
section
variable {w W W' : World} {g off n cap i : Nat} {l : List ST} {s s' : ST}
theorem OwnI.drew (O : OwnI w W g off n cap l i s) : OwnI w W.drew g off n cap l i s := ⟨O.below.drew, O.ge, O.lst.of_block (fun _ _ _ => rfl), O.lt⟩
theorem OwnI.later (O : OwnI w W g off n cap l i s) (b : Below W.heap.size W W') : OwnI w W' g off n cap l i s := ⟨O.below.trans (b.mono O.below.size), O.ge, O.lst.below b, O.lt⟩
theorem OwnI.getD (O : OwnI w W g off n cap l i s) : (l.set i s).getD i ST.z = s := by
  have h := O.lst.size
  rw [List.length_set] at h
  have hi : i < l.length := by have := O.lt; omega
  rw [List.getD_eq_getElem?_getD, List.getElem?_set_self hi]
  rfl
theorem OwnI.range (O : OwnI w W g off n cap l i s) : W.rangeAt g (off + i * 16) s.cells := by
  obtain ⟨cur, hc, _⟩ := lst_block O.lst
  intro j v hv
  have hj : j < 16 := (List.getElem?_eq_some_iff.1 hv).1
  refine row_cell hc _ _ ?_
  have e := lst_cell O.lst O.lt hc hj
  rw [O.getD] at e
  rw [e]
  exact hv
theorem OwnI.upd (O : OwnI w W g off n cap l i s) {cur cur' : Array Value} (h0 : W.heap[g]? = some (.cells cur 49 (0, 0))) (h1 : W'.heap[g]? = some (.cells cur' 49 (0, 0))) (e1 : W'.os = W.os) (e2 : W'.tape = W.tape) (e3 : W'.output = W.output) (e4 : W'.heap.size = W.heap.size) (hf : ∀ q, q ≠ g → W'.heap[q]? = W.heap[q]?)
    (hs : cur'.size = cur.size) (h2 : ∀ j, (j < off + i * 16 ∨ off + i * 16 + 16 ≤ j) → cur'[j]? = cur[j]?) (h3 : ∀ r, r < 16 → cur'[off + i * 16 + r]? = s'.cells[r]?) : OwnI w W' g off n cap l i s' := by
  refine ⟨⟨e1.trans O.below.os, e2.trans O.below.tape, e3.trans O.below.output, by rw [e4]; exact O.below.size, fun q hq => (hf q (fun e => by have := O.ge; omega)).trans (O.below.block q hq)⟩, O.ge, ?_, O.lt⟩
  have := lst_upd (s' := s') O.lst O.lt h0 h1 hs h2 h3
  simpa using this
/-- One cell of the state is written. -/
theorem OwnI.set1 (O : OwnI w W g off n cap l i s) (p : Nat) (v : Value) (hp : p < 16) (hc : s'.cells = s.cells.set p v) : OwnI w (W.setCell ⟨g, off + i * 16 + p, none⟩ v) g off n cap l i s' := by
  obtain ⟨cur, h0, hsz⟩ := lst_block O.lst
  have hlt := O.lt
  refine O.upd h0 (set_row h0 _ v) rfl rfl rfl (by simp [World.setCell]) (fun q hq => Below.heap_setCell _ _ _ _ hq) (by simp) (fun j hj => ?_) (fun r hr => ?_)
  · rw [Array.getElem?_setIfInBounds_ne (by omega)]
  · have e := lst_cell O.lst O.lt h0 hr
    rw [O.getD] at e
    rw [hc, List.getElem?_set]
    by_cases h : p = r
    · subst h
      rw [if_pos rfl, Array.getElem?_setIfInBounds_self_of_lt (by omega), if_pos (by show p < 16; exact hp)]
    · rw [if_neg h, Array.getElem?_setIfInBounds_ne (by omega)]
      exact e
/-- Some cells of the state, one behind another, are written. -/
theorem OwnI.setN (O : OwnI w W g off n cap l i s) (p : Nat) (vs : List Value) (hp : p + vs.length ≤ 16) (h1 : ∀ u ∈ vs, u.oneCell' = true) (hc : s'.cells = s.cells.take p ++ vs ++ s.cells.drop (p + vs.length)) : ∃ cur', (storeCells ⟨g, off + i * 16 + p, none⟩ vs).run Tryz.prog W = .ok () (W.setRow g cur') ∧ OwnI w (W.setRow g cur') g off n cap l i s' := by
  obtain ⟨cur, h0, hsz⟩ := lst_block O.lst
  have hlt := O.lt
  have hst := run_storeCells_at Tryz.prog g (off + i * 16 + p) 49 vs 0 cur W h0 (by omega) h1
  simp only [Nat.add_zero] at hst
  refine ⟨_, hst, O.upd h0 (setRow_heap _ _ _ _ _ _ h0) rfl rfl rfl (size_setRow _ _ _) (fun q hq => setRow_other _ _ _ _ hq) ?_ (fun j hj => ?_) (fun r hr => ?_)⟩
  · rw [List.size_toArray, List.length_append, List.length_append, List.length_take, List.length_drop, Array.length_toList]; omega
  · rw [List.getElem?_toArray, List.append_assoc, List.getElem?_append]
    rw [List.length_take, Array.length_toList]
    rcases hj with hj | hj
    · rw [if_pos (by omega), List.getElem?_take, if_pos (by omega), Array.getElem?_toList]
    · rw [if_neg (by omega), List.getElem?_append, if_neg (by omega), List.getElem?_drop, Array.getElem?_toList]
      congr 1
      omega
  · have e := lst_cell O.lst O.lt h0 hr
    rw [O.getD] at e
    rw [hc, List.getElem?_toArray, List.append_assoc, List.append_assoc, List.getElem?_append, List.getElem?_append (l₁ := s.cells.take p)]
    have hl16 : s.cells.length = 16 := rfl
    rw [List.length_take, Array.length_toList, List.length_take, hl16]
    by_cases hrp : r < p
    · rw [if_pos (by omega), if_pos (by omega), List.getElem?_take, if_pos (by omega), List.getElem?_take, if_pos hrp, Array.getElem?_toList]
      exact e
    · rw [if_neg (by omega), if_neg (by omega), List.getElem?_append, List.getElem?_append]
      by_cases hrv : r < p + vs.length
      · rw [if_pos (by omega), if_pos (by omega)]
        congr 1
        omega
      · rw [if_neg (by omega), if_neg (by omega), List.getElem?_drop, List.getElem?_drop, Array.getElem?_toList]
        rw [show off + i * 16 + p + vs.length + (off + i * 16 + r - min (off + i * 16 + p) cur.size - vs.length) = off + i * 16 + r by omega, show p + vs.length + (r - min p 16 - vs.length) = r by omega]
        exact e
end
theorem rng_mn {W : World} {b o : Nat} {nm : ByteArray} {ep mr : Int} {al : Bool} {kd sc : Int} {hv : Bool} {iv : Int} {h1 : Bool} {v1 o1 g1 : Int} {h2 : Bool} {v2 o2 g2 : Int} (h : W.rangeAt b o (ST.cells ⟨⟨nm, ep, mr, al, kd, sc⟩, hv, iv, ⟨h1, v1, o1, g1⟩, ⟨h2, v2, o2, g2⟩⟩)) : W.rangeAt b (o + 8) [Value.bool h1, .int .i64 v1, .int .i64 o1, .int .i64 g1] := fun j v hq => by
  have := h (8 + j) v (by
    have hj : j < 4 := (List.getElem?_eq_some_iff.1 hq).1
    rw [show ST.cells ⟨⟨nm, ep, mr, al, kd, sc⟩, hv, iv, ⟨h1, v1, o1, g1⟩, ⟨h2, v2, o2, g2⟩⟩ = [Value.string nm, .int .i64 ep, .int .i64 mr, .bool al, .int .i64 kd, .int .i64 sc, .bool hv, .int .i64 iv] ++ ([Value.bool h1, .int .i64 v1, .int .i64 o1, .int .i64 g1] ++ [Value.bool h2, .int .i64 v2, .int .i64 o2, .int .i64 g2]) from rfl, List.getElem?_append_right (by show 8 ≤ _; omega), show 8 + j - [Value.string nm, .int .i64 ep, .int .i64 mr, .bool al, .int .i64 kd, .int .i64 sc, .bool hv, .int .i64 iv].length = j by show 8 + j - 8 = j; omega, List.getElem?_append_left (by show j < 4; exact hj)]
    exact hq)
  rw [show o + 8 + j = o + (8 + j) by omega]
  exact this
theorem rng_mx {W : World} {b o : Nat} {nm : ByteArray} {ep mr : Int} {al : Bool} {kd sc : Int} {hv : Bool} {iv : Int} {h1 : Bool} {v1 o1 g1 : Int} {h2 : Bool} {v2 o2 g2 : Int} (h : W.rangeAt b o (ST.cells ⟨⟨nm, ep, mr, al, kd, sc⟩, hv, iv, ⟨h1, v1, o1, g1⟩, ⟨h2, v2, o2, g2⟩⟩)) : W.rangeAt b (o + 12) [Value.bool h2, .int .i64 v2, .int .i64 o2, .int .i64 g2] := fun j v hq => by
  have := h (12 + j) v (by
    have hj : j < 4 := (List.getElem?_eq_some_iff.1 hq).1
    rw [show ST.cells ⟨⟨nm, ep, mr, al, kd, sc⟩, hv, iv, ⟨h1, v1, o1, g1⟩, ⟨h2, v2, o2, g2⟩⟩ = ([Value.string nm, .int .i64 ep, .int .i64 mr, .bool al, .int .i64 kd, .int .i64 sc, .bool hv, .int .i64 iv] ++ [Value.bool h1, .int .i64 v1, .int .i64 o1, .int .i64 g1]) ++ ([Value.bool h2, .int .i64 v2, .int .i64 o2, .int .i64 g2] ++ []) from rfl, List.getElem?_append_right (by show 12 ≤ _; omega), show 12 + j - ([Value.string nm, .int .i64 ep, .int .i64 mr, .bool al, .int .i64 kd, .int .i64 sc, .bool hv, .int .i64 iv] ++ [Value.bool h1, .int .i64 v1, .int .i64 o1, .int .i64 g1]).length = j by show 12 + j - 12 = j; omega, List.getElem?_append_left (by show j < 4; exact hj)]
    exact hq)
  rw [show o + 12 + j = o + (12 + j) by omega]
  exact this
theorem exec_loadX {o : Oper} {W : World} {ρ : Operand → Value} {x : Operand} (ho : o.op = .load 38 x) {b q : Nat} {h : Bool} {v r g : Int} (hx : ρ x = .pointer (some ⟨b, q, none⟩)) (hc : W.rangeAt b q [.bool h, .int .i64 v, .int .i64 r, .int .i64 g]) : (execOp ρ o).run Tryz.prog W = .ok (.value (exv h v r g)) W := by
  simp only [execOp, ho, hx, Instr.loadAt, Instr.sureAddr, Sem.run_bind, Sem.run_pure, Result.andThen_ok, run_loadVar_mid W b q 38 [.bool h, .int .i64 v, .int .i64 r, .int .i64 g] _ hc Tryz.underlying38 rfl (by show _ = some 4; kernel_rfl)]
section
variable {ops : Array Oper} {rest : List Oper} {o : Oper} {A : Act} {w W : World} {Q : Exit → Act → World → Prop} {K : Act → World → Prop} {g off n cap i : Nat} {l : List ST}
theorem wpList_own4 {nm : ByteArray} {ep mr : Int} {al : Bool} {kd sc : Int} {hv : Bool} {iv : Int} {h1 : Bool} {v1 o1 g1 : Int} {h2 : Bool} {v2 o2 g2 : Int} (O : OwnI w W g off n cap l i ⟨⟨nm, ep, mr, al, kd, sc⟩, hv, iv, ⟨h1, v1, o1, g1⟩, ⟨h2, v2, o2, g2⟩⟩) (hgd : o.guard = none) (x y : Operand) (ho : o.op = .store 4 x y) (b : Bool) (hx : A.eval x = .pointer (some ⟨g, off + i * 16 + 6, none⟩)) (hy : A.eval y = .bool b)
    (H : ∀ W', OwnI w W' g off n cap l i ⟨⟨nm, ep, mr, al, kd, sc⟩, b, iv, ⟨h1, v1, o1, g1⟩, ⟨h2, v2, o2, g2⟩⟩ → wpList Tryz.prog ops Q rest (A.put o.dst undef) W') : wpList Tryz.prog ops Q (o :: rest) A W := by
  have O2 := O.set1 (s' := ⟨⟨nm, ep, mr, al, kd, sc⟩, b, iv, ⟨h1, v1, o1, g1⟩, ⟨h2, v2, o2, g2⟩⟩) 6 (.bool b) (by decide) rfl
  obtain ⟨cur, h0, hsz⟩ := lst_block O.lst
  have hlt := O.lt
  have hc : W.cell? ⟨g, off + i * 16 + 6, none⟩ = some (.bool hv) := O.range 6 _ rfl
  have hf := row_free h0 (off + i * 16 + 6)
  refine wpList_plain hgd fun K hK => ?_
  unfold Oper.wp execOp
  simp only [ho, hx, hy]
  go_simp
  exact hK _ _ (H _ O2)
theorem wpList_own2 {nm : ByteArray} {ep mr : Int} {al : Bool} {kd sc : Int} {hv : Bool} {iv : Int} {h1 : Bool} {v1 o1 g1 : Int} {h2 : Bool} {v2 o2 g2 : Int} (O : OwnI w W g off n cap l i ⟨⟨nm, ep, mr, al, kd, sc⟩, hv, iv, ⟨h1, v1, o1, g1⟩, ⟨h2, v2, o2, g2⟩⟩) (hgd : o.guard = none) (x y : Operand) (ho : o.op = .store 2 x y) (b : Int) (hx : A.eval x = .pointer (some ⟨g, off + i * 16 + 7, none⟩)) (hy : A.eval y = .int .i64 b)
    (H : ∀ W', OwnI w W' g off n cap l i ⟨⟨nm, ep, mr, al, kd, sc⟩, hv, b, ⟨h1, v1, o1, g1⟩, ⟨h2, v2, o2, g2⟩⟩ → wpList Tryz.prog ops Q rest (A.put o.dst undef) W') : wpList Tryz.prog ops Q (o :: rest) A W := by
  have O2 := O.set1 (s' := ⟨⟨nm, ep, mr, al, kd, sc⟩, hv, b, ⟨h1, v1, o1, g1⟩, ⟨h2, v2, o2, g2⟩⟩) 7 (.int .i64 b) (by decide) rfl
  obtain ⟨cur, h0, hsz⟩ := lst_block O.lst
  have hlt := O.lt
  have hc : W.cell? ⟨g, off + i * 16 + 7, none⟩ = some (.int .i64 iv) := O.range 7 _ rfl
  have hf := row_free h0 (off + i * 16 + 7)
  refine wpList_plain hgd fun K hK => ?_
  unfold Oper.wp execOp
  simp only [ho, hx, hy]
  go_simp
  exact hK _ _ (H _ O2)
theorem wp_ownmn {nm : ByteArray} {ep mr : Int} {al : Bool} {kd sc : Int} {hv : Bool} {iv : Int} {h1 : Bool} {v1 o1 g1 : Int} {h2 : Bool} {v2 o2 g2 : Int} (O : OwnI w W g off n cap l i ⟨⟨nm, ep, mr, al, kd, sc⟩, hv, iv, ⟨h1, v1, o1, g1⟩, ⟨h2, v2, o2, g2⟩⟩) (x y : Operand) (ho : o.op = .store 38 x y) (h : Bool) (v r q : Int) (hx : A.eval x = .pointer (some ⟨g, off + i * 16 + 8, none⟩)) (hy : A.eval y = exv h v r q)
    (H : ∀ W', OwnI w W' g off n cap l i ⟨⟨nm, ep, mr, al, kd, sc⟩, hv, iv, ⟨h, v, r, q⟩, ⟨h2, v2, o2, g2⟩⟩ → K (A.put o.dst undef) W') : o.wp Tryz.prog A W K Q := by
  obtain ⟨cur', hst, O2⟩ := O.setN (s' := ⟨⟨nm, ep, mr, al, kd, sc⟩, hv, iv, ⟨h, v, r, q⟩, ⟨h2, v2, o2, g2⟩⟩) 8 [.bool h, .int .i64 v, .int .i64 r, .int .i64 q] (by simp) (by simp [Value.oneCell']) rfl
  have hi : (Tryz.prog.info? 38).map (·.size) = some 4 := by kernel_rfl
  unfold Oper.wp execOp
  cases hq : Tryz.prog.info? 38 with
  | none => simp [hq] at hi
  | some j =>
    have hs : j.size = 4 := by simpa [hq] using hi
    simp only [ho, hx, hy]
    have hrun : (Instr.storeAt 38 (.pointer (some ⟨g, off + i * 16 + 8, none⟩)) (exv h v r q)).run Tryz.prog W = .ok () (W.setRow g cur') := by
      simp [Instr.storeAt, Instr.sureAddr, storeVar, sizeOf, typeInfo, hq, Value.cells, hs, hst]
    simp only [Sem.run_bind, hrun, Result.andThen_ok, Sem.run_pure]
    exact H _ O2
theorem wp_ownmx {nm : ByteArray} {ep mr : Int} {al : Bool} {kd sc : Int} {hv : Bool} {iv : Int} {h1 : Bool} {v1 o1 g1 : Int} {h2 : Bool} {v2 o2 g2 : Int} (O : OwnI w W g off n cap l i ⟨⟨nm, ep, mr, al, kd, sc⟩, hv, iv, ⟨h1, v1, o1, g1⟩, ⟨h2, v2, o2, g2⟩⟩) (x y : Operand) (ho : o.op = .store 38 x y) (h : Bool) (v r q : Int) (hx : A.eval x = .pointer (some ⟨g, off + i * 16 + 12, none⟩)) (hy : A.eval y = exv h v r q)
    (H : ∀ W', OwnI w W' g off n cap l i ⟨⟨nm, ep, mr, al, kd, sc⟩, hv, iv, ⟨h1, v1, o1, g1⟩, ⟨h, v, r, q⟩⟩ → K (A.put o.dst undef) W') : o.wp Tryz.prog A W K Q := by
  obtain ⟨cur', hst, O2⟩ := O.setN (s' := ⟨⟨nm, ep, mr, al, kd, sc⟩, hv, iv, ⟨h1, v1, o1, g1⟩, ⟨h, v, r, q⟩⟩) 12 [.bool h, .int .i64 v, .int .i64 r, .int .i64 q] (by simp) (by simp [Value.oneCell']) rfl
  have hi : (Tryz.prog.info? 38).map (·.size) = some 4 := by kernel_rfl
  unfold Oper.wp execOp
  cases hq : Tryz.prog.info? 38 with
  | none => simp [hq] at hi
  | some j =>
    have hs : j.size = 4 := by simpa [hq] using hi
    simp only [ho, hx, hy]
    have hrun : (Instr.storeAt 38 (.pointer (some ⟨g, off + i * 16 + 12, none⟩)) (exv h v r q)).run Tryz.prog W = .ok () (W.setRow g cur') := by
      simp [Instr.storeAt, Instr.sureAddr, storeVar, sizeOf, typeInfo, hq, Value.cells, hs, hst]
    simp only [Sem.run_bind, hrun, Result.andThen_ok, Sem.run_pure]
    exact H _ O2
end
section
variable {P : Program} {ops : Array Oper} {Q : Exit → Act → World → Prop} {md : Region.Mode} {S : World → Prop} {m : Nat}
theorem anyM_two (i j : Nat) {o o' : Oper} {fuel : Nat} {listed : Array Bool} {a : Act} {w : World} (hr : Region.ready md ops listed = [i, j]) (ho : ops[i]? = some o) (ho' : ops[j]? = some o')
    (h : ∀ K' : Act → World → Prop, Shut (∀ a w, ((listed.setIfInBounds i true).getD m true = false → S w) → wpAnyM P md ops Q S m fuel (listed.setIfInBounds i true) a w → K' a w) → if Region.wanted o (yielded ops a.tmps) = true then Oper.wp P o a w K' Q else K' (a.put o.dst undef) w)
    (h' : ∀ K' : Act → World → Prop, Shut (∀ a w, ((listed.setIfInBounds j true).getD m true = false → S w) → wpAnyM P md ops Q S m fuel (listed.setIfInBounds j true) a w → K' a w) → if Region.wanted o' (yielded ops a.tmps) = true then Oper.wp P o' a w K' Q else K' (a.put o'.dst undef) w) : wpAnyM P md ops Q S m (fuel + 1) listed a w := by
  refine ⟨fun h0 => (by rw [hr] at h0; cases h0), ?_⟩
  rw [hr]
  intro k hk
  rcases List.mem_cons.1 hk with rfl | hk
  · exact wpOp_step ho (fun K' hK => h K' (fun a w hS hW => hK a w ⟨hS, hW⟩))
  · obtain rfl : k = j := by simpa using hk
    exact wpOp_step ho' (fun K' hK => h' K' (fun a w hS hW => hK a w ⟨hS, hW⟩))
end
end Go.Proofs.YtoeebofappbneaaGreat

namespace Go.Proofs.YtoeebofappbneaaGreat
open Go.ChangeShapes Go.WideShapes Go.ChangeAt Go.RowKit Go.Maps Go.Shelf
set_option linter.unusedVariables false
set_option linter.unusedSimpArgs false

abbrev zL : Array Value := #[.nilFunc, .nilFunc, .nilFunc, .nilFunc, .nilFunc]
theorem rtL : RT 101 zL := ⟨fun W => by kernel_rfl, ⟨_, Tryz.underlying101, rfl⟩, by show _ = some 5; kernel_rfl⟩
theorem rtK : RT 97 #[.int .i64 0] := ⟨fun W => by kernel_rfl, ⟨_, Tryz.underlying97, rfl⟩, by show _ = some 1; kernel_rfl⟩
theorem then_falseP {P : Program} {c : Code} {K : Act → World → Prop} {Q : Exit → Act → World → Prop} {x : Act} {W : World} (h : c.wp P (Exit.then K (fun _ _ _ => False)) x W) : c.wp P (Exit.then K Q) x W :=
  wp_mono h (by intro e x' W' h'; cases e <;> first | exact h' | exact h'.elim)
abbrev fnv (n : Nat) : Value := .func (.func n) #[] #[]
theorem zero94 (W : World) : (zeroValue 95).run Tryz.prog W = .ok (.pointer none) W := by kernel_rfl
theorem index1 (W : World) : (Instr.index 101 (.agg #[.nilFunc, fnv 89, fnv 91, fnv 93, fnv 94]) (.int .i64 1)).run Tryz.prog W = .ok (.agg #[fnv 89]) W := by kernel_rfl
theorem index2 (W : World) : (Instr.index 101 (.agg #[.nilFunc, fnv 89, fnv 91, fnv 93, fnv 94]) (.int .i64 2)).run Tryz.prog W = .ok (.agg #[fnv 91]) W := by kernel_rfl
theorem index3 (W : World) : (Instr.index 101 (.agg #[.nilFunc, fnv 89, fnv 91, fnv 93, fnv 94]) (.int .i64 3)).run Tryz.prog W = .ok (.agg #[fnv 93]) W := by kernel_rfl
theorem index4 (W : World) : (Instr.index 101 (.agg #[.nilFunc, fnv 89, fnv 91, fnv 93, fnv 94]) (.int .i64 4)).run Tryz.prog W = .ok (.agg #[fnv 94]) W := by kernel_rfl
theorem fld99 (f : Value) (W : World) : (Instr.field 100 (.agg #[f]) 0).run Tryz.prog W = .ok f W := by
  unfold Instr.field
  rw [Sem.run_bind, run_underlying Tryz.underlying100]
  go_simp
  try rfl
set_option maxRecDepth 100000 in
set_option maxHeartbeats 4000000 in
theorem tellings_any (w : World) : Calls Tryz.prog 69 #[] w fun e w' => e = .returned (.agg #[.nilFunc, fnv 89, fnv 91, fnv 93, fnv 94]) ∧ Below w.heap.size w w' := by
  have M := Mem.nil w
  go_enter Tryz.func69, Tryz.ntmps69
  go_wp2_with (first
      | ((with_reducible show wpList _ _ _ (Oper.mk (some 0) (Op.alloc 101) _ _ _ _ :: _) _ _); refine wpList_alloc M rfl rfl rtL ?_; clear M; intro k0 W M)
      | ((with_reducible show wpList _ _ _ (Oper.mk _ (Op.store 101 _ _) _ _ _ _ :: _) _ _); (first | (refine wpList_put M rfl _ _ rfl rtL 0 _ rfl rfl rfl rfl rfl (by simp [Value.oneCell']) ?_)); clear M; intro W M; simp only [List.set_cons_zero, List.set_cons_succ] at M))
  exact bodyPost_ret (results_ctT rfl _ _ k0 _ rfl (load_row (M.get (.head _)) rtL rfl)) rfl ⟨rfl, M.below⟩
section
variable {ops : Array Oper} {o : Oper} {A : Act} {w W : World} {l : List Blk} {Q : Exit → Act → World → Prop} {K : Act → World → Prop} {N : Nat} {C : Nat → Prop}
theorem wp_set2 (M : MemG N C w W l) (x y : Operand) (ho : o.op = .store 2 x y) (j : Nat) {k i : Nat} {c : Array Value} {T : TypeId} (n : Int) (v0 : Value) (hi : l[j]? = some (k, c, T)) (hx : A.eval x = .pointer (some ⟨k, i, none⟩)) (hy : A.eval y = .int .i64 n) (hv : c[i]? = some v0)
    (H : ∀ W', MemG N C w W' (l.set j (k, c.setIfInBounds i (.int .i64 n), T)) → K (A.put o.dst undef) W') : o.wp Tryz.prog A W K Q := by
  have ha : W.heap[k]? = some (.cells c T (0, 0)) := M.get (List.mem_of_getElem? hi)
  have hc := row_cell ha i _ hv
  have hf := row_free ha i
  unfold Oper.wp execOp
  simp only [ho, hx, hy]
  go_simp
  refine H _ (M.put j _ hi rfl rfl rfl (by simp [World.setCell]) ?_ (fun q hq => Below.heap_setCell _ _ _ _ hq))
  exact set_row ha i _
theorem wp_set45 (M : MemG N C w W l) (x y : Operand) (ho : o.op = .store 26 x y) (j : Nat) {k i : Nat} {c : Array Value} {T : TypeId} (n : Int) (v0 : Value) (hi : l[j]? = some (k, c, T)) (hx : A.eval x = .pointer (some ⟨k, i, none⟩)) (hy : A.eval y = .int .i64 n) (hv : c[i]? = some v0)
    (H : ∀ W', MemG N C w W' (l.set j (k, c.setIfInBounds i (.int .i64 n), T)) → K (A.put o.dst undef) W') : o.wp Tryz.prog A W K Q := by
  have ha : W.heap[k]? = some (.cells c T (0, 0)) := M.get (List.mem_of_getElem? hi)
  have hc := row_cell ha i _ hv
  have hf := row_free ha i
  unfold Oper.wp execOp
  simp only [ho, hx, hy]
  go_simp
  refine H _ (M.put j _ hi rfl rfl rfl (by simp [World.setCell]) ?_ (fun q hq => Below.heap_setCell _ _ _ _ hq))
  exact set_row ha i _
end
section
variable {N : Nat} {C : Nat → Prop} {w W : World} {l : List Blk}
theorem keep0 (e : Int) : keepE 0 e = e := if_pos rfl
theorem set_two (i : Nat) (a b : Blk) : (l.set i a).set i b = l.set i b := by simp
theorem set_get {i : Nat} {a : Blk} (hi : i < l.length) : (l.set i a)[i]? = some a := by rw [List.getElem?_set_self hi]
set_option maxRecDepth 100000 in
set_option maxHeartbeats 4000000 in
theorem tell89_any (M : MemG N C w W l) {i k : Nat} (hi : l[i]? = some (k, #[.int .i64 0], 97)) (x s : Int) : Calls Tryz.prog 89 #[.pointer (some ⟨k, 0, none⟩), .int .i64 x, .int .i64 s] W fun en W' => en = .returned (.int .i64 (mulV x s)) ∧ MemG N C w W' (l.set i (k, #[.int .i64 (mulE x s)], 97)) := by
  have hl : i < l.length := (List.getElem?_eq_some_iff.1 hi).1
  obtain ⟨VV, hVV⟩ : ∃ VV, (mulV x s) = VV := ⟨_, rfl⟩
  obtain ⟨XX, hXX⟩ : ∃ XX, (mulE x s) = XX := ⟨_, rfl⟩
  have HVV : Hid ((mulV x s) = VV) := hVV
  have HXX : Hid ((mulE x s) = XX) := hXX
  rw [hVV, hXX]
  clear hVV hXX
  go_enter Tryz.func89, Tryz.ntmps89
  go_wp2_with (first
      | (go_at_call 90; refine (times_any M hi x s).mono ?_; rintro e W2 ⟨rfl, M2⟩; rw [keep0] at M2)
      | fail)
  go_ret
  exact ⟨by rw [← HVV.out]; first | done | rfl, by rw [← HXX.out]; exact M2⟩
set_option maxRecDepth 100000 in
set_option maxHeartbeats 4000000 in
theorem tell91_any (M : MemG N C w W l) {i k : Nat} (hi : l[i]? = some (k, #[.int .i64 0], 97)) (x s : Int) : Calls Tryz.prog 91 #[.pointer (some ⟨k, 0, none⟩), .int .i64 x, .int .i64 s] W fun en W' => en = .returned (.int .i64 (mulV x s)) ∧ MemG N C w W' (l.set i (k, #[.int .i64 (keepE (if x ≠ 0 ∧ x ≠ 1 then 49 else 0) (mulE x s))], 97)) := by
  have hl : i < l.length := (List.getElem?_eq_some_iff.1 hi).1
  obtain ⟨VV, hVV⟩ : ∃ VV, (mulV x s) = VV := ⟨_, rfl⟩
  obtain ⟨XX, hXX⟩ : ∃ XX, (keepE (if x ≠ 0 ∧ x ≠ 1 then 49 else 0) (mulE x s)) = XX := ⟨_, rfl⟩
  have HVV : Hid ((mulV x s) = VV) := hVV
  have HXX : Hid ((keepE (if x ≠ 0 ∧ x ≠ 1 then 49 else 0) (mulE x s)) = XX) := hXX
  rw [hVV, hXX]
  clear hVV hXX
  go_enter Tryz.func91, Tryz.ntmps91
  go_wp2_with (first
      | (go_at_call 92; refine (unit_any M hi x).mono ?_; rintro e W1 ⟨rfl, M1⟩; rw [keep0] at M1)
      | (go_at_call 90; refine (times_any M1 (set_get hl) x s).mono ?_; rintro e W2 ⟨rfl, M2⟩; rw [set_two] at M2)
      | fail)
  go_ret
  exact ⟨by rw [← HVV.out]; first | done | rfl, by rw [← HXX.out]; exact M2⟩
set_option maxRecDepth 100000 in
set_option maxHeartbeats 4000000 in
theorem tell93_any (M : MemG N C w W l) {i k : Nat} (hi : l[i]? = some (k, #[.int .i64 0], 97)) (x s : Int) : Calls Tryz.prog 93 #[.pointer (some ⟨k, 0, none⟩), .int .i64 x, .int .i64 s] W fun en W' => en = .returned (.int .i64 (mulV (mulV x x) s)) ∧ MemG N C w W' (l.set i (k, #[.int .i64 (keepE (mulE x x) (mulE (mulV x x) s))], 97)) := by
  have hl : i < l.length := (List.getElem?_eq_some_iff.1 hi).1
  obtain ⟨VV, hVV⟩ : ∃ VV, (mulV (mulV x x) s) = VV := ⟨_, rfl⟩
  obtain ⟨XX, hXX⟩ : ∃ XX, (keepE (mulE x x) (mulE (mulV x x) s)) = XX := ⟨_, rfl⟩
  have HVV : Hid ((mulV (mulV x x) s) = VV) := hVV
  have HXX : Hid ((keepE (mulE x x) (mulE (mulV x x) s)) = XX) := hXX
  rw [hVV, hXX]
  clear hVV hXX
  go_enter Tryz.func93, Tryz.ntmps93
  go_wp2_with (first
      | (go_at_call 90; refine (times_any M hi x x).mono ?_; clear M; rintro e W1 ⟨rfl, M1⟩; rw [keep0] at M1)
      | (go_at_call 90; refine (times_any M1 (set_get hl) (mulV x x) s).mono ?_; rintro e W2 ⟨rfl, M2⟩; rw [set_two] at M2)
      | fail)
  go_ret
  exact ⟨by rw [← HVV.out]; first | done | rfl, by rw [← HXX.out]; exact M2⟩
set_option maxRecDepth 100000 in
set_option maxHeartbeats 4000000 in
theorem tell94_any (M : MemG N C w W l) {i k : Nat} (hi : l[i]? = some (k, #[.int .i64 0], 97)) (x s : Int) : Calls Tryz.prog 94 #[.pointer (some ⟨k, 0, none⟩), .int .i64 x, .int .i64 s] W fun en W' => en = .returned (.int .i64 (x)) ∧ MemG N C w W' (l.set i (k, #[.int .i64 ((if E.flowB x = true then 0 else 10 : Int))], 97)) := by
  have hl : i < l.length := (List.getElem?_eq_some_iff.1 hi).1
  obtain ⟨XX, hXX⟩ : ∃ XX, ((if E.flowB x = true then 0 else 10 : Int)) = XX := ⟨_, rfl⟩
  have HXX : Hid (((if E.flowB x = true then 0 else 10 : Int)) = XX) := hXX
  rw [hXX]
  clear hXX
  go_enter Tryz.func94, Tryz.ntmps94
  go_wp2_with (first
      | (go_at_call 95; refine (plain_anyR M hi x).mono ?_; rintro e W2 ⟨rfl, M2⟩; rw [keep0] at M2)
      | fail)
  go_ret
  exact ⟨rfl, by rw [← HXX.out]; exact M2⟩
end
set_option maxRecDepth 100000 in
set_option maxHeartbeats 4000000 in
theorem last_any {N : Nat} {C : Nat → Prop} {w W : World} {k2 k4 k5 k6 k16 : Nat} {x y z : Int} {c2 : Array Value} (M : MemG N C w W [(k6, #[.pointer (some ⟨k16, 0, none⟩)], 95), (k16, #[.int .i64 z], 97), (k5, #[.int .i64 y], 26), (k4, #[.int .i64 x], 2), (k2, c2, 47)]) : CallsD Tryz.prog 68 #[.pointer (some ⟨k6, 0, none⟩), .pointer (some ⟨k4, 0, none⟩), .pointer (some ⟨k5, 0, none⟩)] .returning W fun e u' W' => u' = .returning ∧ (e = .returned (.tuple #[]) ∧ MemG N C w W' [(k6, #[.pointer (some ⟨k16, 0, none⟩)], 95), (k16, #[.int .i64 z], 97), (k5, #[.int .i64 (if z = 0 then y else z)], 26), (k4, #[.int .i64 (if z = 0 then x else 0)], 2), (k2, c2, 47)]) := by
  by_cases h0 : z = 0
  case pos =>
    subst h0
    rw [if_pos rfl, if_pos rfl]
    go_enter_d Tryz.func68, Tryz.ntmps68
    go_wp2_with (first
      | ((with_reducible show wpList _ _ _ (Oper.mk _ (Op.load 95 _) _ _ _ _ :: _) _ _); refine wpList_cell94 M (by rfl) _ rfl ⟨k16, 0, none⟩ rfl (by first | exact .head _) rfl ?_)
      | ((with_reducible show wpList _ _ _ (Oper.mk _ (Op.load 26 _) _ _ _ _ :: _) _ _); refine wpList_cell45 M (by rfl) _ rfl _ rfl (by first | exact .head _ | exact .tail _ (.head _)) rfl ?_))
    go_end0
    exact ⟨rfl, M⟩
  case neg =>
    rw [if_neg h0, if_neg h0]
    have h0b : (z != 0) = true := by simpa using h0
    clear h0
    go_enter_d Tryz.func68, Tryz.ntmps68
    go_wp2_with (first
      | ((with_reducible show wpList _ _ _ (Oper.mk _ (Op.load 95 _) _ _ _ _ :: _) _ _); refine wpList_cell94 M (by rfl) _ rfl ⟨k16, 0, none⟩ rfl (by first | exact .head _) rfl ?_)
      | ((with_reducible show wpList _ _ _ (Oper.mk _ (Op.load 26 _) _ _ _ _ :: _) _ _); refine wpList_cell45 M (by rfl) _ rfl _ rfl (by first | exact .head _ | exact .tail _ (.head _)) rfl ?_)
      | ((with_reducible show wpList _ _ _ (Oper.mk _ (Op.store 2 _ _) _ _ _ _ :: _) _ _); refine wpList_set2 M rfl _ _ rfl 3 _ _ rfl rfl rfl rfl ?_; clear M; intro W M; simp only [List.set_cons_zero, List.set_cons_succ, List.setIfInBounds_toArray] at M)
      | ((with_reducible show wpList _ _ _ (Oper.mk _ (Op.store 26 _ _) _ _ _ _ :: _) _ _); refine wpList_set45 M rfl _ _ rfl 2 _ _ rfl rfl rfl rfl ?_; clear M; intro W M; simp only [List.set_cons_zero, List.set_cons_succ, List.setIfInBounds_toArray] at M))
    go_end0
    exact ⟨rfl, M⟩
theorem ite_self0 (e : Int) : (if e = 0 then 0 else e) = e := by split; (rename_i h; exact h.symm); rfl
theorem tld1 (x s : Int) : (if mulE x s = 0 then 0 else mulE x s) = tldE 1 x s ∧ (if mulE x s = 0 then mulV x s else 0) = tldV 1 x s := by
  rw [ite_self0]
  unfold tldV tldE mulV
  simp
  try (intro a b; exact absurd b a)
theorem tld2 (x s : Int) : (if keepE (if x ≠ 0 ∧ x ≠ 1 then 49 else 0) (mulE x s) = 0 then 0 else keepE (if x ≠ 0 ∧ x ≠ 1 then 49 else 0) (mulE x s)) = tldE 2 x s ∧ (if keepE (if x ≠ 0 ∧ x ≠ 1 then 49 else 0) (mulE x s) = 0 then mulV x s else 0) = tldV 2 x s := by
  rw [ite_self0]
  unfold tldV tldE keepE mulV
  by_cases h : x ≠ 0 ∧ x ≠ 1
  · simp [h]
  · simp [h]
    try (intro a b; exact absurd b a)
theorem tld3 (x s : Int) : (if keepE (mulE x x) (mulE (mulV x x) s) = 0 then 0 else keepE (mulE x x) (mulE (mulV x x) s)) = tldE 3 x s ∧ (if keepE (mulE x x) (mulE (mulV x x) s) = 0 then mulV (mulV x x) s else 0) = tldV 3 x s := by
  rw [ite_self0]
  unfold tldV tldE keepE mulV
  rcases mulE_or x x with h | h
  · simp [h]
    try (intro a b; exact absurd b a)
  · simp [h]
theorem tld4 (x s : Int) : (if (if E.flowB x = true then (0 : Int) else 10) = 0 then (0 : Int) else (if E.flowB x = true then (0 : Int) else 10)) = tldE 4 x s ∧ (if (if E.flowB x = true then (0 : Int) else 10) = 0 then x else 0) = tldV 4 x s := by
  rw [ite_self0]
  unfold tldV tldE
  simp
set_option maxRecDepth 100000 in
set_option maxHeartbeats 8000000 in
theorem told_any (nm : ByteArray) (ep mr : Int) (al : Bool) (kd sc x : Int) (w : World) (hk : kindB kd = true) : Calls Tryz.prog 36 #[chv nm ep mr al kd sc, .int .i64 x] w fun e w' => e = .returned (.tuple #[.int .i64 (tldV kd x sc), .int .i64 (tldE kd x sc)]) ∧ Below w.heap.size w w' := by
  have M := Mem.nil w
  have h4 : kd = 1 ∨ kd = 2 ∨ kd = 3 ∨ kd = 4 := by
    have : 1 ≤ kd ∧ kd ≤ 4 := of_decide_eq_true hk
    omega
  clear hk
  rcases h4 with h | h | h | h
  · subst h
    go_enter_defers Tryz.func36, Tryz.ntmps36
    go_wp2_with (first
      | ((with_reducible show wpList _ _ _ (Oper.mk (some 2) (Op.box 47 _) _ _ _ _ :: _) _ _); refine wpList_box M rfl _ rfl _ rfl ?_; clear M; intro k2 W M)
      | ((with_reducible show wpList _ _ _ (Oper.mk (some 4) (Op.alloc 2) _ _ _ _ :: _) _ _); refine wpList_newU M rfl rfl zero2 rfl ?_; clear M; intro k4 W M)
      | ((with_reducible show wpList _ _ _ (Oper.mk (some 5) (Op.alloc 26) _ _ _ _ :: _) _ _); refine wpList_newU M rfl rfl zero45 rfl ?_; clear M; intro k5 W M)
      | ((with_reducible show wpList _ _ _ (Oper.mk _ (Op.load 3 _) _ _ _ _ :: _) _ _); refine wpList_cell3 M (by rfl) _ rfl _ rfl (by first | exact .head _ | exact .tail _ (.head _) | exact .tail _ (.tail _ (.head _))) rfl ?_)
      | ((with_reducible show wpList _ _ _ (Oper.mk (some 16) (Op.box 97 _) _ _ _ _ :: _) _ _); refine wpList_box M rfl _ rfl _ rfl ?_; clear M; intro k16 W M)
      | ((with_reducible show wpList _ _ _ (Oper.mk (some 6) (Op.alloc 95) _ _ _ _ :: _) _ _); refine wpList_newU M rfl rfl zero94 rfl ?_; clear M; intro k6 W M)
      | ((with_reducible show wpList _ _ _ (Oper.mk _ (Op.store 95 _ _) _ _ _ _ :: _) _ _); refine wpList_set94 M rfl _ _ rfl 0 ⟨k16, 0, none⟩ _ rfl rfl rfl rfl ?_; clear M; intro W M; simp only [List.set_cons_zero, List.set_cons_succ, List.setIfInBounds_toArray] at M)
      | fail)
    refine then_falseP ?_
    refine wp_region_any (by kernel_rfl) ?_
    change wpAny _ _ _ _ _ _ _ (World.drew _)
    refine wpAny_narrow (fun W' => ∃ x0 y0 z0, Mem w W' [(k6, #[.pointer (some ⟨k16, 0, none⟩)], 95), (k16, #[.int .i64 z0], 97), (k5, #[.int .i64 y0], 26), (k4, #[.int .i64 x0], 2), (k2, chc nm ep mr al 1 sc, 47)]) _ _ _ _ ?_
    replace M := M.drew
    revert M
    generalize World.drew _ = WD
    intro M
    refine anyH_take 1 19 (.pointer (some ⟨k2, 4, none⟩)) rfl rfl (by kernel_rfl) (by kernel_rfl) (by kernel_rfl) (fun _ _ _ h => h) (Or.inl ⟨by rfl, by intro w hSw; go_simp⟩) (⟨_, _, _, M⟩) ?_
    try simp only [Act.put, List.setIfInBounds_toArray, List.set_cons_zero, List.set_cons_succ]
    refine anyH_take 2 20 (.int .i64 1) rfl rfl (by kernel_rfl) (by kernel_rfl) (by kernel_rfl) (fun _ _ _ h => h) (Or.inl ⟨by rfl, fun X hSw => by obtain ⟨x9, y9, z9, hm⟩ := hSw; have hc := row_cell (hm.get (.tail _ (.tail _ (.tail _ (.tail _ (.head _)))))) 4 _ rfl; go_simp⟩) (⟨_, _, _, M⟩) ?_
    try simp only [Act.put, List.setIfInBounds_toArray, List.set_cons_zero, List.set_cons_succ]
    refine anyH_take 5 23 (.pointer (some ⟨k16, 0, none⟩)) rfl rfl (by kernel_rfl) (by kernel_rfl) (by kernel_rfl) (fun _ _ _ h => h) (Or.inl ⟨by rfl, fun X hSw => by obtain ⟨x9, y9, z9, hm⟩ := hSw; have hc := row_cell (hm.get (.head _)) 0 _ rfl; go_simp⟩) (⟨_, _, _, M⟩) ?_
    try simp only [Act.put, List.setIfInBounds_toArray, List.set_cons_zero, List.set_cons_succ]
    refine anyH_take 6 24 (.int .i64 x) rfl rfl (by kernel_rfl) (by kernel_rfl) (by kernel_rfl) (fun _ _ _ h => h) (Or.inl ⟨by rfl, by intro w hSw; go_simp⟩) (⟨_, _, _, M⟩) ?_
    try simp only [Act.put, List.setIfInBounds_toArray, List.set_cons_zero, List.set_cons_succ]
    refine anyH_take 7 25 (.pointer (some ⟨k2, 5, none⟩)) rfl rfl (by kernel_rfl) (by kernel_rfl) (by kernel_rfl) (fun _ _ _ h => h) (Or.inl ⟨by rfl, by intro w hSw; go_simp⟩) (⟨_, _, _, M⟩) ?_
    try simp only [Act.put, List.setIfInBounds_toArray, List.set_cons_zero, List.set_cons_succ]
    refine anyH_take 8 26 (.int .i64 sc) rfl rfl (by kernel_rfl) (by kernel_rfl) (by kernel_rfl) (fun _ _ _ h => h) (Or.inl ⟨by rfl, fun X hSw => by obtain ⟨x9, y9, z9, hm⟩ := hSw; have hc := row_cell (hm.get (.tail _ (.tail _ (.tail _ (.tail _ (.head _)))))) 5 _ rfl; go_simp⟩) (⟨_, _, _, M⟩) ?_
    try simp only [Act.put, List.setIfInBounds_toArray, List.set_cons_zero, List.set_cons_succ]
    refine wpAnyH_ready (rs := [0]) (by kernel_rfl) (by simp) ?_
    refine AllReadyH.cons rfl (fun K hK => ?_) AllReadyH.nil
    go_simp
    go_wp2_with (go_at_call 69; refine (tellings_any _).mono ?_; rintro e W1 ⟨rfl, b1⟩; replace M := M.later b1; clear b1)
    refine hK.out _ _ (⟨_, _, _, M⟩) (fun hS => ?_)
    clear hK
    refine anyH_take 3 21 (.agg #[fnv 89]) rfl rfl (by kernel_rfl) (by kernel_rfl) (by kernel_rfl) (fun _ _ _ h => h) (Or.inl ⟨by rfl, fun X hSw => by go_simp; rw [index1]; rfl⟩) (⟨_, _, _, M⟩) ?_
    try simp only [Act.put, List.setIfInBounds_toArray, List.set_cons_zero, List.set_cons_succ]
    refine anyH_take 4 22 (fnv 89) rfl rfl (by kernel_rfl) (by kernel_rfl) (by kernel_rfl) (fun _ _ _ h => h) (Or.inl ⟨by rfl, fun X hSw => by go_simp; rw [fld99]; rfl⟩) (⟨_, _, _, M⟩) ?_
    try simp only [Act.put, List.setIfInBounds_toArray, List.set_cons_zero, List.set_cons_succ]
    refine wpAnyH_ready (rs := [9]) (by kernel_rfl) (by simp) ?_
    refine AllReadyH.cons rfl (fun K hK => ?_) AllReadyH.nil
    go_simp
    go_wp2_with (go_at_call 89; refine (tell89_any M (i := 1) rfl x sc).mono ?_; clear M; rintro e W1 ⟨rfl, M⟩; simp only [List.set_cons_zero, List.set_cons_succ] at M)
    refine hK.out _ _ (⟨_, _, _, M⟩) (fun hS => ?_)
    clear hK
    refine wpAnyH_ready (rs := [10]) (by kernel_rfl) (by simp) ?_
    refine AllReadyH.cons rfl (fun K hK => ?_) AllReadyH.nil
    rw [if_pos (by rfl)]
    refine wp_set2 M _ _ rfl 3 _ _ rfl rfl rfl rfl ?_
    clear M
    intro W5 M
    simp only [List.set_cons_zero, List.set_cons_succ, List.setIfInBounds_toArray] at M
    refine hK.out _ _ (⟨_, _, _, M⟩) (fun hS => ?_)
    clear hK hS
    try simp only [Act.put, List.setIfInBounds_toArray, List.set_cons_zero, List.set_cons_succ]
    refine wpAnyH_ready (rs := [11]) (by kernel_rfl) (by simp) ?_
    refine AllReadyH.cons rfl (fun K hK => ?_) AllReadyH.nil
    rw [if_pos (by rfl)]
    refine wp_set45 M _ _ rfl 2 _ _ rfl rfl rfl rfl ?_
    clear M
    intro W6 M
    simp only [List.set_cons_zero, List.set_cons_succ, List.setIfInBounds_toArray] at M
    refine hK.out _ _ (⟨_, _, _, M⟩) (fun hS => ?_)
    clear hK hS
    try simp only [Act.put, List.setIfInBounds_toArray, List.set_cons_zero, List.set_cons_succ]
    refine wpAnyH_done (by kernel_rfl) ?_ _
    go_wp2
    refine leaves_cons (f := 68) (args := #[.pointer (some ⟨k6, 0, none⟩), .pointer (some ⟨k4, 0, none⟩), .pointer (some ⟨k5, 0, none⟩)]) (by simp) (by simp [go_sem]) ?_
    refine (last_any M).mono ?_
    clear M
    rintro e u' W7 ⟨rfl, rfl, M⟩
    rw [(tld1 x sc).1, (tld1 x sc).2] at M
    have y4 := row_cell (M.get (.tail _ (.tail _ (.tail _ (.head _))))) 0 _ rfl
    have y5 := row_cell (M.get (.tail _ (.tail _ (.head _)))) 0 _ rfl
    exact ⟨.tuple #[.int .i64 (tldV 1 x sc), .int .i64 (tldE 1 x sc)], by simp [results, Tryz.results36, go_sem, y4, y5], rfl, M.below⟩
  · subst h
    go_enter_defers Tryz.func36, Tryz.ntmps36
    go_wp2_with (first
      | ((with_reducible show wpList _ _ _ (Oper.mk (some 2) (Op.box 47 _) _ _ _ _ :: _) _ _); refine wpList_box M rfl _ rfl _ rfl ?_; clear M; intro k2 W M)
      | ((with_reducible show wpList _ _ _ (Oper.mk (some 4) (Op.alloc 2) _ _ _ _ :: _) _ _); refine wpList_newU M rfl rfl zero2 rfl ?_; clear M; intro k4 W M)
      | ((with_reducible show wpList _ _ _ (Oper.mk (some 5) (Op.alloc 26) _ _ _ _ :: _) _ _); refine wpList_newU M rfl rfl zero45 rfl ?_; clear M; intro k5 W M)
      | ((with_reducible show wpList _ _ _ (Oper.mk _ (Op.load 3 _) _ _ _ _ :: _) _ _); refine wpList_cell3 M (by rfl) _ rfl _ rfl (by first | exact .head _ | exact .tail _ (.head _) | exact .tail _ (.tail _ (.head _))) rfl ?_)
      | ((with_reducible show wpList _ _ _ (Oper.mk (some 16) (Op.box 97 _) _ _ _ _ :: _) _ _); refine wpList_box M rfl _ rfl _ rfl ?_; clear M; intro k16 W M)
      | ((with_reducible show wpList _ _ _ (Oper.mk (some 6) (Op.alloc 95) _ _ _ _ :: _) _ _); refine wpList_newU M rfl rfl zero94 rfl ?_; clear M; intro k6 W M)
      | ((with_reducible show wpList _ _ _ (Oper.mk _ (Op.store 95 _ _) _ _ _ _ :: _) _ _); refine wpList_set94 M rfl _ _ rfl 0 ⟨k16, 0, none⟩ _ rfl rfl rfl rfl ?_; clear M; intro W M; simp only [List.set_cons_zero, List.set_cons_succ, List.setIfInBounds_toArray] at M)
      | fail)
    refine then_falseP ?_
    refine wp_region_any (by kernel_rfl) ?_
    change wpAny _ _ _ _ _ _ _ (World.drew _)
    refine wpAny_narrow (fun W' => ∃ x0 y0 z0, Mem w W' [(k6, #[.pointer (some ⟨k16, 0, none⟩)], 95), (k16, #[.int .i64 z0], 97), (k5, #[.int .i64 y0], 26), (k4, #[.int .i64 x0], 2), (k2, chc nm ep mr al 2 sc, 47)]) _ _ _ _ ?_
    replace M := M.drew
    revert M
    generalize World.drew _ = WD
    intro M
    refine anyH_take 1 19 (.pointer (some ⟨k2, 4, none⟩)) rfl rfl (by kernel_rfl) (by kernel_rfl) (by kernel_rfl) (fun _ _ _ h => h) (Or.inl ⟨by rfl, by intro w hSw; go_simp⟩) (⟨_, _, _, M⟩) ?_
    try simp only [Act.put, List.setIfInBounds_toArray, List.set_cons_zero, List.set_cons_succ]
    refine anyH_take 2 20 (.int .i64 2) rfl rfl (by kernel_rfl) (by kernel_rfl) (by kernel_rfl) (fun _ _ _ h => h) (Or.inl ⟨by rfl, fun X hSw => by obtain ⟨x9, y9, z9, hm⟩ := hSw; have hc := row_cell (hm.get (.tail _ (.tail _ (.tail _ (.tail _ (.head _)))))) 4 _ rfl; go_simp⟩) (⟨_, _, _, M⟩) ?_
    try simp only [Act.put, List.setIfInBounds_toArray, List.set_cons_zero, List.set_cons_succ]
    refine anyH_take 5 23 (.pointer (some ⟨k16, 0, none⟩)) rfl rfl (by kernel_rfl) (by kernel_rfl) (by kernel_rfl) (fun _ _ _ h => h) (Or.inl ⟨by rfl, fun X hSw => by obtain ⟨x9, y9, z9, hm⟩ := hSw; have hc := row_cell (hm.get (.head _)) 0 _ rfl; go_simp⟩) (⟨_, _, _, M⟩) ?_
    try simp only [Act.put, List.setIfInBounds_toArray, List.set_cons_zero, List.set_cons_succ]
    refine anyH_take 6 24 (.int .i64 x) rfl rfl (by kernel_rfl) (by kernel_rfl) (by kernel_rfl) (fun _ _ _ h => h) (Or.inl ⟨by rfl, by intro w hSw; go_simp⟩) (⟨_, _, _, M⟩) ?_
    try simp only [Act.put, List.setIfInBounds_toArray, List.set_cons_zero, List.set_cons_succ]
    refine anyH_take 7 25 (.pointer (some ⟨k2, 5, none⟩)) rfl rfl (by kernel_rfl) (by kernel_rfl) (by kernel_rfl) (fun _ _ _ h => h) (Or.inl ⟨by rfl, by intro w hSw; go_simp⟩) (⟨_, _, _, M⟩) ?_
    try simp only [Act.put, List.setIfInBounds_toArray, List.set_cons_zero, List.set_cons_succ]
    refine anyH_take 8 26 (.int .i64 sc) rfl rfl (by kernel_rfl) (by kernel_rfl) (by kernel_rfl) (fun _ _ _ h => h) (Or.inl ⟨by rfl, fun X hSw => by obtain ⟨x9, y9, z9, hm⟩ := hSw; have hc := row_cell (hm.get (.tail _ (.tail _ (.tail _ (.tail _ (.head _)))))) 5 _ rfl; go_simp⟩) (⟨_, _, _, M⟩) ?_
    try simp only [Act.put, List.setIfInBounds_toArray, List.set_cons_zero, List.set_cons_succ]
    refine wpAnyH_ready (rs := [0]) (by kernel_rfl) (by simp) ?_
    refine AllReadyH.cons rfl (fun K hK => ?_) AllReadyH.nil
    go_simp
    go_wp2_with (go_at_call 69; refine (tellings_any _).mono ?_; rintro e W1 ⟨rfl, b1⟩; replace M := M.later b1; clear b1)
    refine hK.out _ _ (⟨_, _, _, M⟩) (fun hS => ?_)
    clear hK
    refine anyH_take 3 21 (.agg #[fnv 91]) rfl rfl (by kernel_rfl) (by kernel_rfl) (by kernel_rfl) (fun _ _ _ h => h) (Or.inl ⟨by rfl, fun X hSw => by go_simp; rw [index2]; rfl⟩) (⟨_, _, _, M⟩) ?_
    try simp only [Act.put, List.setIfInBounds_toArray, List.set_cons_zero, List.set_cons_succ]
    refine anyH_take 4 22 (fnv 91) rfl rfl (by kernel_rfl) (by kernel_rfl) (by kernel_rfl) (fun _ _ _ h => h) (Or.inl ⟨by rfl, fun X hSw => by go_simp; rw [fld99]; rfl⟩) (⟨_, _, _, M⟩) ?_
    try simp only [Act.put, List.setIfInBounds_toArray, List.set_cons_zero, List.set_cons_succ]
    refine wpAnyH_ready (rs := [9]) (by kernel_rfl) (by simp) ?_
    refine AllReadyH.cons rfl (fun K hK => ?_) AllReadyH.nil
    go_simp
    go_wp2_with (go_at_call 91; refine (tell91_any M (i := 1) rfl x sc).mono ?_; clear M; rintro e W1 ⟨rfl, M⟩; simp only [List.set_cons_zero, List.set_cons_succ] at M)
    refine hK.out _ _ (⟨_, _, _, M⟩) (fun hS => ?_)
    clear hK
    refine wpAnyH_ready (rs := [10]) (by kernel_rfl) (by simp) ?_
    refine AllReadyH.cons rfl (fun K hK => ?_) AllReadyH.nil
    rw [if_pos (by rfl)]
    refine wp_set2 M _ _ rfl 3 _ _ rfl rfl rfl rfl ?_
    clear M
    intro W5 M
    simp only [List.set_cons_zero, List.set_cons_succ, List.setIfInBounds_toArray] at M
    refine hK.out _ _ (⟨_, _, _, M⟩) (fun hS => ?_)
    clear hK hS
    try simp only [Act.put, List.setIfInBounds_toArray, List.set_cons_zero, List.set_cons_succ]
    refine wpAnyH_ready (rs := [11]) (by kernel_rfl) (by simp) ?_
    refine AllReadyH.cons rfl (fun K hK => ?_) AllReadyH.nil
    rw [if_pos (by rfl)]
    refine wp_set45 M _ _ rfl 2 _ _ rfl rfl rfl rfl ?_
    clear M
    intro W6 M
    simp only [List.set_cons_zero, List.set_cons_succ, List.setIfInBounds_toArray] at M
    refine hK.out _ _ (⟨_, _, _, M⟩) (fun hS => ?_)
    clear hK hS
    try simp only [Act.put, List.setIfInBounds_toArray, List.set_cons_zero, List.set_cons_succ]
    refine wpAnyH_done (by kernel_rfl) ?_ _
    go_wp2
    refine leaves_cons (f := 68) (args := #[.pointer (some ⟨k6, 0, none⟩), .pointer (some ⟨k4, 0, none⟩), .pointer (some ⟨k5, 0, none⟩)]) (by simp) (by simp [go_sem]) ?_
    refine (last_any M).mono ?_
    clear M
    rintro e u' W7 ⟨rfl, rfl, M⟩
    rw [(tld2 x sc).1, (tld2 x sc).2] at M
    have y4 := row_cell (M.get (.tail _ (.tail _ (.tail _ (.head _))))) 0 _ rfl
    have y5 := row_cell (M.get (.tail _ (.tail _ (.head _)))) 0 _ rfl
    exact ⟨.tuple #[.int .i64 (tldV 2 x sc), .int .i64 (tldE 2 x sc)], by simp [results, Tryz.results36, go_sem, y4, y5], rfl, M.below⟩
  · subst h
    go_enter_defers Tryz.func36, Tryz.ntmps36
    go_wp2_with (first
      | ((with_reducible show wpList _ _ _ (Oper.mk (some 2) (Op.box 47 _) _ _ _ _ :: _) _ _); refine wpList_box M rfl _ rfl _ rfl ?_; clear M; intro k2 W M)
      | ((with_reducible show wpList _ _ _ (Oper.mk (some 4) (Op.alloc 2) _ _ _ _ :: _) _ _); refine wpList_newU M rfl rfl zero2 rfl ?_; clear M; intro k4 W M)
      | ((with_reducible show wpList _ _ _ (Oper.mk (some 5) (Op.alloc 26) _ _ _ _ :: _) _ _); refine wpList_newU M rfl rfl zero45 rfl ?_; clear M; intro k5 W M)
      | ((with_reducible show wpList _ _ _ (Oper.mk _ (Op.load 3 _) _ _ _ _ :: _) _ _); refine wpList_cell3 M (by rfl) _ rfl _ rfl (by first | exact .head _ | exact .tail _ (.head _) | exact .tail _ (.tail _ (.head _))) rfl ?_)
      | ((with_reducible show wpList _ _ _ (Oper.mk (some 16) (Op.box 97 _) _ _ _ _ :: _) _ _); refine wpList_box M rfl _ rfl _ rfl ?_; clear M; intro k16 W M)
      | ((with_reducible show wpList _ _ _ (Oper.mk (some 6) (Op.alloc 95) _ _ _ _ :: _) _ _); refine wpList_newU M rfl rfl zero94 rfl ?_; clear M; intro k6 W M)
      | ((with_reducible show wpList _ _ _ (Oper.mk _ (Op.store 95 _ _) _ _ _ _ :: _) _ _); refine wpList_set94 M rfl _ _ rfl 0 ⟨k16, 0, none⟩ _ rfl rfl rfl rfl ?_; clear M; intro W M; simp only [List.set_cons_zero, List.set_cons_succ, List.setIfInBounds_toArray] at M)
      | fail)
    refine then_falseP ?_
    refine wp_region_any (by kernel_rfl) ?_
    change wpAny _ _ _ _ _ _ _ (World.drew _)
    refine wpAny_narrow (fun W' => ∃ x0 y0 z0, Mem w W' [(k6, #[.pointer (some ⟨k16, 0, none⟩)], 95), (k16, #[.int .i64 z0], 97), (k5, #[.int .i64 y0], 26), (k4, #[.int .i64 x0], 2), (k2, chc nm ep mr al 3 sc, 47)]) _ _ _ _ ?_
    replace M := M.drew
    revert M
    generalize World.drew _ = WD
    intro M
    refine anyH_take 1 19 (.pointer (some ⟨k2, 4, none⟩)) rfl rfl (by kernel_rfl) (by kernel_rfl) (by kernel_rfl) (fun _ _ _ h => h) (Or.inl ⟨by rfl, by intro w hSw; go_simp⟩) (⟨_, _, _, M⟩) ?_
    try simp only [Act.put, List.setIfInBounds_toArray, List.set_cons_zero, List.set_cons_succ]
    refine anyH_take 2 20 (.int .i64 3) rfl rfl (by kernel_rfl) (by kernel_rfl) (by kernel_rfl) (fun _ _ _ h => h) (Or.inl ⟨by rfl, fun X hSw => by obtain ⟨x9, y9, z9, hm⟩ := hSw; have hc := row_cell (hm.get (.tail _ (.tail _ (.tail _ (.tail _ (.head _)))))) 4 _ rfl; go_simp⟩) (⟨_, _, _, M⟩) ?_
    try simp only [Act.put, List.setIfInBounds_toArray, List.set_cons_zero, List.set_cons_succ]
    refine anyH_take 5 23 (.pointer (some ⟨k16, 0, none⟩)) rfl rfl (by kernel_rfl) (by kernel_rfl) (by kernel_rfl) (fun _ _ _ h => h) (Or.inl ⟨by rfl, fun X hSw => by obtain ⟨x9, y9, z9, hm⟩ := hSw; have hc := row_cell (hm.get (.head _)) 0 _ rfl; go_simp⟩) (⟨_, _, _, M⟩) ?_
    try simp only [Act.put, List.setIfInBounds_toArray, List.set_cons_zero, List.set_cons_succ]
    refine anyH_take 6 24 (.int .i64 x) rfl rfl (by kernel_rfl) (by kernel_rfl) (by kernel_rfl) (fun _ _ _ h => h) (Or.inl ⟨by rfl, by intro w hSw; go_simp⟩) (⟨_, _, _, M⟩) ?_
    try simp only [Act.put, List.setIfInBounds_toArray, List.set_cons_zero, List.set_cons_succ]
    refine anyH_take 7 25 (.pointer (some ⟨k2, 5, none⟩)) rfl rfl (by kernel_rfl) (by kernel_rfl) (by kernel_rfl) (fun _ _ _ h => h) (Or.inl ⟨by rfl, by intro w hSw; go_simp⟩) (⟨_, _, _, M⟩) ?_
    try simp only [Act.put, List.setIfInBounds_toArray, List.set_cons_zero, List.set_cons_succ]
    refine anyH_take 8 26 (.int .i64 sc) rfl rfl (by kernel_rfl) (by kernel_rfl) (by kernel_rfl) (fun _ _ _ h => h) (Or.inl ⟨by rfl, fun X hSw => by obtain ⟨x9, y9, z9, hm⟩ := hSw; have hc := row_cell (hm.get (.tail _ (.tail _ (.tail _ (.tail _ (.head _)))))) 5 _ rfl; go_simp⟩) (⟨_, _, _, M⟩) ?_
    try simp only [Act.put, List.setIfInBounds_toArray, List.set_cons_zero, List.set_cons_succ]
    refine wpAnyH_ready (rs := [0]) (by kernel_rfl) (by simp) ?_
    refine AllReadyH.cons rfl (fun K hK => ?_) AllReadyH.nil
    go_simp
    go_wp2_with (go_at_call 69; refine (tellings_any _).mono ?_; rintro e W1 ⟨rfl, b1⟩; replace M := M.later b1; clear b1)
    refine hK.out _ _ (⟨_, _, _, M⟩) (fun hS => ?_)
    clear hK
    refine anyH_take 3 21 (.agg #[fnv 93]) rfl rfl (by kernel_rfl) (by kernel_rfl) (by kernel_rfl) (fun _ _ _ h => h) (Or.inl ⟨by rfl, fun X hSw => by go_simp; rw [index3]; rfl⟩) (⟨_, _, _, M⟩) ?_
    try simp only [Act.put, List.setIfInBounds_toArray, List.set_cons_zero, List.set_cons_succ]
    refine anyH_take 4 22 (fnv 93) rfl rfl (by kernel_rfl) (by kernel_rfl) (by kernel_rfl) (fun _ _ _ h => h) (Or.inl ⟨by rfl, fun X hSw => by go_simp; rw [fld99]; rfl⟩) (⟨_, _, _, M⟩) ?_
    try simp only [Act.put, List.setIfInBounds_toArray, List.set_cons_zero, List.set_cons_succ]
    refine wpAnyH_ready (rs := [9]) (by kernel_rfl) (by simp) ?_
    refine AllReadyH.cons rfl (fun K hK => ?_) AllReadyH.nil
    go_simp
    go_wp2_with (go_at_call 93; refine (tell93_any M (i := 1) rfl x sc).mono ?_; clear M; rintro e W1 ⟨rfl, M⟩; simp only [List.set_cons_zero, List.set_cons_succ] at M)
    refine hK.out _ _ (⟨_, _, _, M⟩) (fun hS => ?_)
    clear hK
    refine wpAnyH_ready (rs := [10]) (by kernel_rfl) (by simp) ?_
    refine AllReadyH.cons rfl (fun K hK => ?_) AllReadyH.nil
    rw [if_pos (by rfl)]
    refine wp_set2 M _ _ rfl 3 _ _ rfl rfl rfl rfl ?_
    clear M
    intro W5 M
    simp only [List.set_cons_zero, List.set_cons_succ, List.setIfInBounds_toArray] at M
    refine hK.out _ _ (⟨_, _, _, M⟩) (fun hS => ?_)
    clear hK hS
    try simp only [Act.put, List.setIfInBounds_toArray, List.set_cons_zero, List.set_cons_succ]
    refine wpAnyH_ready (rs := [11]) (by kernel_rfl) (by simp) ?_
    refine AllReadyH.cons rfl (fun K hK => ?_) AllReadyH.nil
    rw [if_pos (by rfl)]
    refine wp_set45 M _ _ rfl 2 _ _ rfl rfl rfl rfl ?_
    clear M
    intro W6 M
    simp only [List.set_cons_zero, List.set_cons_succ, List.setIfInBounds_toArray] at M
    refine hK.out _ _ (⟨_, _, _, M⟩) (fun hS => ?_)
    clear hK hS
    try simp only [Act.put, List.setIfInBounds_toArray, List.set_cons_zero, List.set_cons_succ]
    refine wpAnyH_done (by kernel_rfl) ?_ _
    go_wp2
    refine leaves_cons (f := 68) (args := #[.pointer (some ⟨k6, 0, none⟩), .pointer (some ⟨k4, 0, none⟩), .pointer (some ⟨k5, 0, none⟩)]) (by simp) (by simp [go_sem]) ?_
    refine (last_any M).mono ?_
    clear M
    rintro e u' W7 ⟨rfl, rfl, M⟩
    rw [(tld3 x sc).1, (tld3 x sc).2] at M
    have y4 := row_cell (M.get (.tail _ (.tail _ (.tail _ (.head _))))) 0 _ rfl
    have y5 := row_cell (M.get (.tail _ (.tail _ (.head _)))) 0 _ rfl
    exact ⟨.tuple #[.int .i64 (tldV 3 x sc), .int .i64 (tldE 3 x sc)], by simp [results, Tryz.results36, go_sem, y4, y5], rfl, M.below⟩
  · subst h
    go_enter_defers Tryz.func36, Tryz.ntmps36
    go_wp2_with (first
      | ((with_reducible show wpList _ _ _ (Oper.mk (some 2) (Op.box 47 _) _ _ _ _ :: _) _ _); refine wpList_box M rfl _ rfl _ rfl ?_; clear M; intro k2 W M)
      | ((with_reducible show wpList _ _ _ (Oper.mk (some 4) (Op.alloc 2) _ _ _ _ :: _) _ _); refine wpList_newU M rfl rfl zero2 rfl ?_; clear M; intro k4 W M)
      | ((with_reducible show wpList _ _ _ (Oper.mk (some 5) (Op.alloc 26) _ _ _ _ :: _) _ _); refine wpList_newU M rfl rfl zero45 rfl ?_; clear M; intro k5 W M)
      | ((with_reducible show wpList _ _ _ (Oper.mk _ (Op.load 3 _) _ _ _ _ :: _) _ _); refine wpList_cell3 M (by rfl) _ rfl _ rfl (by first | exact .head _ | exact .tail _ (.head _) | exact .tail _ (.tail _ (.head _))) rfl ?_)
      | ((with_reducible show wpList _ _ _ (Oper.mk (some 16) (Op.box 97 _) _ _ _ _ :: _) _ _); refine wpList_box M rfl _ rfl _ rfl ?_; clear M; intro k16 W M)
      | ((with_reducible show wpList _ _ _ (Oper.mk (some 6) (Op.alloc 95) _ _ _ _ :: _) _ _); refine wpList_newU M rfl rfl zero94 rfl ?_; clear M; intro k6 W M)
      | ((with_reducible show wpList _ _ _ (Oper.mk _ (Op.store 95 _ _) _ _ _ _ :: _) _ _); refine wpList_set94 M rfl _ _ rfl 0 ⟨k16, 0, none⟩ _ rfl rfl rfl rfl ?_; clear M; intro W M; simp only [List.set_cons_zero, List.set_cons_succ, List.setIfInBounds_toArray] at M)
      | fail)
    refine then_falseP ?_
    refine wp_region_any (by kernel_rfl) ?_
    change wpAny _ _ _ _ _ _ _ (World.drew _)
    refine wpAny_narrow (fun W' => ∃ x0 y0 z0, Mem w W' [(k6, #[.pointer (some ⟨k16, 0, none⟩)], 95), (k16, #[.int .i64 z0], 97), (k5, #[.int .i64 y0], 26), (k4, #[.int .i64 x0], 2), (k2, chc nm ep mr al 4 sc, 47)]) _ _ _ _ ?_
    replace M := M.drew
    revert M
    generalize World.drew _ = WD
    intro M
    refine anyH_take 1 19 (.pointer (some ⟨k2, 4, none⟩)) rfl rfl (by kernel_rfl) (by kernel_rfl) (by kernel_rfl) (fun _ _ _ h => h) (Or.inl ⟨by rfl, by intro w hSw; go_simp⟩) (⟨_, _, _, M⟩) ?_
    try simp only [Act.put, List.setIfInBounds_toArray, List.set_cons_zero, List.set_cons_succ]
    refine anyH_take 2 20 (.int .i64 4) rfl rfl (by kernel_rfl) (by kernel_rfl) (by kernel_rfl) (fun _ _ _ h => h) (Or.inl ⟨by rfl, fun X hSw => by obtain ⟨x9, y9, z9, hm⟩ := hSw; have hc := row_cell (hm.get (.tail _ (.tail _ (.tail _ (.tail _ (.head _)))))) 4 _ rfl; go_simp⟩) (⟨_, _, _, M⟩) ?_
    try simp only [Act.put, List.setIfInBounds_toArray, List.set_cons_zero, List.set_cons_succ]
    refine anyH_take 5 23 (.pointer (some ⟨k16, 0, none⟩)) rfl rfl (by kernel_rfl) (by kernel_rfl) (by kernel_rfl) (fun _ _ _ h => h) (Or.inl ⟨by rfl, fun X hSw => by obtain ⟨x9, y9, z9, hm⟩ := hSw; have hc := row_cell (hm.get (.head _)) 0 _ rfl; go_simp⟩) (⟨_, _, _, M⟩) ?_
    try simp only [Act.put, List.setIfInBounds_toArray, List.set_cons_zero, List.set_cons_succ]
    refine anyH_take 6 24 (.int .i64 x) rfl rfl (by kernel_rfl) (by kernel_rfl) (by kernel_rfl) (fun _ _ _ h => h) (Or.inl ⟨by rfl, by intro w hSw; go_simp⟩) (⟨_, _, _, M⟩) ?_
    try simp only [Act.put, List.setIfInBounds_toArray, List.set_cons_zero, List.set_cons_succ]
    refine anyH_take 7 25 (.pointer (some ⟨k2, 5, none⟩)) rfl rfl (by kernel_rfl) (by kernel_rfl) (by kernel_rfl) (fun _ _ _ h => h) (Or.inl ⟨by rfl, by intro w hSw; go_simp⟩) (⟨_, _, _, M⟩) ?_
    try simp only [Act.put, List.setIfInBounds_toArray, List.set_cons_zero, List.set_cons_succ]
    refine anyH_take 8 26 (.int .i64 sc) rfl rfl (by kernel_rfl) (by kernel_rfl) (by kernel_rfl) (fun _ _ _ h => h) (Or.inl ⟨by rfl, fun X hSw => by obtain ⟨x9, y9, z9, hm⟩ := hSw; have hc := row_cell (hm.get (.tail _ (.tail _ (.tail _ (.tail _ (.head _)))))) 5 _ rfl; go_simp⟩) (⟨_, _, _, M⟩) ?_
    try simp only [Act.put, List.setIfInBounds_toArray, List.set_cons_zero, List.set_cons_succ]
    refine wpAnyH_ready (rs := [0]) (by kernel_rfl) (by simp) ?_
    refine AllReadyH.cons rfl (fun K hK => ?_) AllReadyH.nil
    go_simp
    go_wp2_with (go_at_call 69; refine (tellings_any _).mono ?_; rintro e W1 ⟨rfl, b1⟩; replace M := M.later b1; clear b1)
    refine hK.out _ _ (⟨_, _, _, M⟩) (fun hS => ?_)
    clear hK
    refine anyH_take 3 21 (.agg #[fnv 94]) rfl rfl (by kernel_rfl) (by kernel_rfl) (by kernel_rfl) (fun _ _ _ h => h) (Or.inl ⟨by rfl, fun X hSw => by go_simp; rw [index4]; rfl⟩) (⟨_, _, _, M⟩) ?_
    try simp only [Act.put, List.setIfInBounds_toArray, List.set_cons_zero, List.set_cons_succ]
    refine anyH_take 4 22 (fnv 94) rfl rfl (by kernel_rfl) (by kernel_rfl) (by kernel_rfl) (fun _ _ _ h => h) (Or.inl ⟨by rfl, fun X hSw => by go_simp; rw [fld99]; rfl⟩) (⟨_, _, _, M⟩) ?_
    try simp only [Act.put, List.setIfInBounds_toArray, List.set_cons_zero, List.set_cons_succ]
    refine wpAnyH_ready (rs := [9]) (by kernel_rfl) (by simp) ?_
    refine AllReadyH.cons rfl (fun K hK => ?_) AllReadyH.nil
    go_simp
    go_wp2_with (go_at_call 94; refine (tell94_any M (i := 1) rfl x sc).mono ?_; clear M; rintro e W1 ⟨rfl, M⟩; simp only [List.set_cons_zero, List.set_cons_succ] at M)
    refine hK.out _ _ (⟨_, _, _, M⟩) (fun hS => ?_)
    clear hK
    refine wpAnyH_ready (rs := [10]) (by kernel_rfl) (by simp) ?_
    refine AllReadyH.cons rfl (fun K hK => ?_) AllReadyH.nil
    rw [if_pos (by rfl)]
    refine wp_set2 M _ _ rfl 3 _ _ rfl rfl rfl rfl ?_
    clear M
    intro W5 M
    simp only [List.set_cons_zero, List.set_cons_succ, List.setIfInBounds_toArray] at M
    refine hK.out _ _ (⟨_, _, _, M⟩) (fun hS => ?_)
    clear hK hS
    try simp only [Act.put, List.setIfInBounds_toArray, List.set_cons_zero, List.set_cons_succ]
    refine wpAnyH_ready (rs := [11]) (by kernel_rfl) (by simp) ?_
    refine AllReadyH.cons rfl (fun K hK => ?_) AllReadyH.nil
    rw [if_pos (by rfl)]
    refine wp_set45 M _ _ rfl 2 _ _ rfl rfl rfl rfl ?_
    clear M
    intro W6 M
    simp only [List.set_cons_zero, List.set_cons_succ, List.setIfInBounds_toArray] at M
    refine hK.out _ _ (⟨_, _, _, M⟩) (fun hS => ?_)
    clear hK hS
    try simp only [Act.put, List.setIfInBounds_toArray, List.set_cons_zero, List.set_cons_succ]
    refine wpAnyH_done (by kernel_rfl) ?_ _
    go_wp2
    refine leaves_cons (f := 68) (args := #[.pointer (some ⟨k6, 0, none⟩), .pointer (some ⟨k4, 0, none⟩), .pointer (some ⟨k5, 0, none⟩)]) (by simp) (by simp [go_sem]) ?_
    refine (last_any M).mono ?_
    clear M
    rintro e u' W7 ⟨rfl, rfl, M⟩
    rw [(tld4 x sc).1, (tld4 x sc).2] at M
    have y4 := row_cell (M.get (.tail _ (.tail _ (.tail _ (.head _))))) 0 _ rfl
    have y5 := row_cell (M.get (.tail _ (.tail _ (.head _)))) 0 _ rfl
    exact ⟨.tuple #[.int .i64 (tldV 4 x sc), .int .i64 (tldE 4 x sc)], by simp [results, Tryz.results36, go_sem, y4, y5], rfl, M.below⟩
end Go.Proofs.YtoeebofappbneaaGreat

namespace Go.Proofs.YtoeebofappbneaaGreat
open Go.ChangeShapes Go.WideShapes Go.ChangeAt Go.RowKit Go.Maps Go.Shelf
set_option linter.unusedVariables false
set_option linter.unusedSimpArgs false

section
variable {ops : Array Oper} {rest : List Oper} {o : Oper} {A : Act} {W : World} {Q : Exit → Act → World → Prop}
theorem wpList_cell2w (hgd : Region.wanted o (yielded ops A.tmps) = true) (x : Operand) (ho : o.op = .load 2 x) {a : Addr} (n : Int) (hx : A.eval x = .pointer (some a)) (hc : W.cell? a = some (.int .i64 n))
    (H : wpList Tryz.prog ops Q rest (A.put o.dst (.int .i64 n)) W) : wpList Tryz.prog ops Q (o :: rest) A W := by
  unfold wpList
  rw [if_pos hgd]
  left
  unfold Oper.wp execOp
  simp only [ho, hx]
  go_simp
  exact H
theorem wpList_cell3w (hgd : Region.wanted o (yielded ops A.tmps) = true) (x : Operand) (ho : o.op = .load 3 x) {a : Addr} (n : Int) (hx : A.eval x = .pointer (some a)) (hc : W.cell? a = some (.int .i64 n))
    (H : wpList Tryz.prog ops Q rest (A.put o.dst (.int .i64 n)) W) : wpList Tryz.prog ops Q (o :: rest) A W := by
  unfold wpList
  rw [if_pos hgd]
  left
  unfold Oper.wp execOp
  simp only [ho, hx]
  go_simp
  exact H
theorem wpList_cell4w (hgd : Region.wanted o (yielded ops A.tmps) = true) (x : Operand) (ho : o.op = .load 4 x) {a : Addr} (n : Bool) (hx : A.eval x = .pointer (some a)) (hc : W.cell? a = some (.bool n))
    (H : wpList Tryz.prog ops Q rest (A.put o.dst (.bool n)) W) : wpList Tryz.prog ops Q (o :: rest) A W := by
  unfold wpList
  rw [if_pos hgd]
  left
  unfold Oper.wp execOp
  simp only [ho, hx]
  go_simp
  exact H
end
theorem set_getD {l : List ST} {i : Nat} (h : i < l.length) : l.set i (l.getD i ST.z) = l := by
  refine List.ext_getElem? fun j => ?_
  rw [List.getElem?_set]
  split
  · rename_i e
    subst e
    first
    | rw [if_pos h, List.getD_eq_getElem?_getD, List.getElem?_eq_getElem h]; rfl
    | rw [List.getD_eq_getElem?_getD, List.getElem?_eq_getElem h]; rfl
  · rfl
theorem OwnI.mk0 {w W : World} {g off n cap i : Nat} {l : List ST} (B : Below w.heap.size w W) (hg : w.heap.size ≤ g) (L : LstT W (some ⟨g, off, none⟩) n cap l) (hi : i < n) : OwnI w W g off n cap l i (l.getD i ST.z) :=
  ⟨B, hg, by rw [set_getD (by rw [L.size]; exact hi)]; exact L, hi⟩
theorem lst_addr {W : World} {a : Option Addr} {n cap i : Nat} {l : List ST} (L : LstT W a n cap l) (hi : i < n) : ∃ g off, a = some ⟨g, off, none⟩ := by
  rcases L.mem with ⟨rfl, h⟩ | ⟨g, off, cur, rfl, _⟩
  · have := L.le; omega
  · exact ⟨g, off, rfl⟩
theorem fin_V {w W : World} {a : Option Addr} {n cap : Nat} {l : List ST} {v : Value} (hn : l.length = n) (L : LstT W a n cap l) (hg : ∀ g off, a = some ⟨g, off, none⟩ → w.heap.size ≤ g) (B : Below w.heap.size w W) : AnsV w l v (.returned (.tuple #[.slice a n cap, v])) W := by
  subst hn
  exact ⟨a, cap, rfl, L, hg, B⟩
set_option maxRecDepth 100000 in
set_option maxHeartbeats 16000000 in
theorem set_anyS (a : Option Addr) (cap : Nat) (l : List ST) (id : Int) (name : ByteArray) (x : Int) (w : World) (hr : RdT w a l.length cap l) (hf : fitL l = true) : Calls Tryz.prog 13 #[.slice a l.length cap, .int .i64 id, .string name, .int .i64 x] w (AnsV w (stS l id name x) (.int .i64 (stE l name x))) := by
  have B0 := Below.refl w.heap.size w
  have h8 := fitL_len hf
  have HN8 : Hid (l.length ≤ 8) := h8
  cases hp : plc name l with
  | none =>
    have HPI : Hid (plI name l = -1) := plI_none hp
    have hS : stS l id name x = l := by unfold stS; rw [hp]
    have hE : stE l name x = 44 := by unfold stE; rw [hp]
    rw [hS, hE]
    clear hp hS hE hf
    go_enter Tryz.func13, Tryz.ntmps13
    go_wp2_with (first
      | (go_at_call 28; refine (copy_any a cap l _ (hr.below B0)).mono ?_; rintro e W1 ⟨a1, c1, rfl, L1, fo1, b1⟩)
      | (go_at_call 35; refine (place_any a1 _ c1 l name _ (L1.rd (by omega))).mono ?_; rintro e W2 ⟨rfl, b2⟩; rw [HPI.out]))
    exact bodyPost_ret (results_tmp2 rfl _ _ _) rfl (fin_V rfl (L1.below b2) fo1 (b1.trans (b2.mono b1.size)))
  | some i =>
    obtain ⟨hi, hpp, _⟩ := plc_at hp
    have hk0 : kindB (l.getD i ST.z).c.kd = true := (fit_parts (fitsB_fit (fitL_iff.1 hf).1 _ (recs_mem (by rw [List.getD_eq_getElem?_getD, List.getElem?_eq_getElem hi]; exact List.getElem_mem hi)))).2.1
    have HPI : Hid (plI name l = (i : Int)) := plI_some hp
    have HI : Hid (i < l.length) := hi
    have hS : stS l id name x = if tldE (l.getD i ST.z).c.kd x (l.getD i ST.z).c.sc = 0 then l.set i (setT id (tldV (l.getD i ST.z).c.kd x (l.getD i ST.z).c.sc) (l.getD i ST.z)) else l := by unfold stS; rw [hp]
    have hE : stE l name x = tldE (l.getD i ST.z).c.kd x (l.getD i ST.z).c.sc := by unfold stE; rw [hp]
    rw [hS, hE]
    have hiI : (i : Int) < (l.length : Int) := by omega
    have hi0 : ¬ (i : Int) < 0 := by omega
    have hset : l.set i (l.getD i ST.z) = l := set_getD hi
    obtain ⟨⟨⟨nm, ep, mr, al, kd, sc⟩, hv, iv, ⟨h1, v1, o1, g1⟩, ⟨h2, v2, o2, g2⟩⟩, hri⟩ : ∃ r, l.getD i ST.z = r := ⟨_, rfl⟩
    have HX : Hid (l.getD i ST.z = ⟨⟨nm, ep, mr, al, kd, sc⟩, hv, iv, ⟨h1, v1, o1, g1⟩, ⟨h2, v2, o2, g2⟩⟩) := hri
    rw [hri] at hk0 hset ⊢
    dsimp only at hk0 ⊢
    have KT := fun W => told_any nm ep mr al kd sc x W hk0
    obtain ⟨XE, hXE⟩ : ∃ XE, tldE kd x sc = XE := ⟨_, rfl⟩
    obtain ⟨YV, hYV⟩ : ∃ YV, tldV kd x sc = YV := ⟨_, rfl⟩
    rw [hXE, hYV] at KT ⊢
    have HSET : Hid (l.set i ⟨⟨nm, ep, mr, al, kd, sc⟩, hv, iv, ⟨h1, v1, o1, g1⟩, ⟨h2, v2, o2, g2⟩⟩ = l) := hset
    clear hXE hYV hp hpp hS hE hset hri hf hk0 hi
    by_cases h0 : XE = 0
    case neg =>
      rw [if_neg h0]
      have h0b : (XE != 0) = true := by simpa using h0
      clear h0
      go_enter Tryz.func13, Tryz.ntmps13
      go_wp2_with (first
      | (go_at_call 28; refine (copy_any a cap l _ (hr.below B0)).mono ?_; rintro e W1 ⟨a1, c1, rfl, L1, fo1, b1⟩)
      | (go_at_call 35; refine (place_any a1 _ c1 l name _ (L1.rd (by have := HN8.out; omega))).mono ?_; rintro e W2 ⟨rfl, b2⟩; rw [HPI.out]; obtain ⟨g, off, rfl⟩ := lst_addr L1 HI.out; have O := OwnI.mk0 (i := i) (b1.trans (b2.mono b1.size)) (fo1 g off rfl) (L1.below b2) HI.out; rw [HX.out] at O)
      | ((with_reducible show wpList _ _ _ (Oper.mk _ (Op.load 47 (Operand.tmp 29)) _ _ _ _ :: _) _ _); refine wpList_load23w (by rfl) _ rfl g (off + i * 16) _ _ _ _ _ _ rfl (rng_ch O.range) ?_)
      | (go_at_call 36; refine (KT _).mono ?_; clear KT; rintro e W3 ⟨rfl, b3⟩; replace O := O.later b3; clear b3))
      have HL := O.lst
      rw [HSET.out] at HL
      exact bodyPost_ret (results_tmp2 rfl _ _ _) rfl (fin_V rfl HL (fun g2 off2 e => by cases e; exact O.ge) O.below)
    case pos =>
    rw [if_pos h0]
    subst h0
    by_cases h4 : kd = 4
    case neg =>
      have h4b : (kd == 4) = false := by simpa using h4
      have HT : setT id YV ⟨⟨nm, ep, mr, al, kd, sc⟩, hv, iv, ⟨h1, v1, o1, g1⟩, ⟨h2, v2, o2, g2⟩⟩ = ⟨⟨nm, ep, mr, al, kd, sc⟩, true, YV, ⟨h1, v1, o1, g1⟩, ⟨h2, v2, o2, g2⟩⟩ := if_neg h4
      rw [HT]
      clear h4 HT
      go_enter Tryz.func13, Tryz.ntmps13
      go_wp2_with (first
      | (go_at_call 28; refine (copy_any a cap l _ (hr.below B0)).mono ?_; rintro e W1 ⟨a1, c1, rfl, L1, fo1, b1⟩)
      | (go_at_call 35; refine (place_any a1 _ c1 l name _ (L1.rd (by have := HN8.out; omega))).mono ?_; rintro e W2 ⟨rfl, b2⟩; rw [HPI.out]; obtain ⟨g, off, rfl⟩ := lst_addr L1 HI.out; have O := OwnI.mk0 (i := i) (b1.trans (b2.mono b1.size)) (fo1 g off rfl) (L1.below b2) HI.out; rw [HX.out] at O)
      | ((with_reducible show wpList _ _ _ (Oper.mk _ (Op.load 47 (Operand.tmp 29)) _ _ _ _ :: _) _ _); refine wpList_load23w (by rfl) _ rfl g (off + i * 16) _ _ _ _ _ _ rfl (rng_ch O.range) ?_)
      | (go_at_call 36; refine (KT _).mono ?_; clear KT; rintro e W3 ⟨rfl, b3⟩; replace O := O.later b3; clear b3)
      | ((with_reducible show wpList _ _ _ (Oper.mk _ (Op.store 4 _ _) _ _ _ _ :: _) _ _); refine wpList_own4 O rfl _ _ rfl true rfl rfl ?_; clear O; intro W4 O)
      | ((with_reducible show wpList _ _ _ (Oper.mk _ (Op.store 2 _ _) _ _ _ _ :: _) _ _); refine wpList_own2 O rfl _ _ rfl YV rfl rfl ?_; clear O; intro W5 O)
      | ((with_reducible show wpList _ _ _ (Oper.mk _ (Op.load 3 (Operand.tmp 49)) _ _ _ _ :: _) _ _); refine wpList_cell3w (by rfl) _ rfl _ rfl (O.range 4 _ rfl) ?_))
      exact bodyPost_ret (results_tmp2 rfl _ _ _) rfl (fin_V (by simp) O.lst (fun g2 off2 e => by cases e; exact O.ge) O.below)
    case pos =>
      subst h4
      obtain ⟨⟨⟨h5, v5, o5, g5⟩, ⟨h6, v6, o6, g6⟩⟩, h56⟩ : ∃ p, E.setX id YV ⟨h1, v1, o1, g1⟩ ⟨h2, v2, o2, g2⟩ = p := ⟨_, rfl⟩
      have HT : setT id YV ⟨⟨nm, ep, mr, al, 4, sc⟩, hv, iv, ⟨h1, v1, o1, g1⟩, ⟨h2, v2, o2, g2⟩⟩ = ⟨⟨nm, ep, mr, al, 4, sc⟩, true, YV, ⟨h5, v5, o5, g5⟩, ⟨h6, v6, o6, g6⟩⟩ := by
        unfold setT
        rw [if_pos rfl]
        dsimp only
        rw [h56]
      rw [HT]
      have KS := fun W => E.set_any id YV h1 v1 o1 g1 h2 v2 o2 g2 W
      rw [h56] at KS
      unfold E.two at KS
      dsimp only at KS
      clear HT h56
      go_enter Tryz.func13, Tryz.ntmps13
      go_wp2_with (first
      | (go_at_call 28; refine (copy_any a cap l _ (hr.below B0)).mono ?_; rintro e W1 ⟨a1, c1, rfl, L1, fo1, b1⟩)
      | (go_at_call 35; refine (place_any a1 _ c1 l name _ (L1.rd (by have := HN8.out; omega))).mono ?_; rintro e W2 ⟨rfl, b2⟩; rw [HPI.out]; obtain ⟨g, off, rfl⟩ := lst_addr L1 HI.out; have O := OwnI.mk0 (i := i) (b1.trans (b2.mono b1.size)) (fo1 g off rfl) (L1.below b2) HI.out; rw [HX.out] at O)
      | ((with_reducible show wpList _ _ _ (Oper.mk _ (Op.load 47 (Operand.tmp 29)) _ _ _ _ :: _) _ _); refine wpList_load23w (by rfl) _ rfl g (off + i * 16) _ _ _ _ _ _ rfl (rng_ch O.range) ?_)
      | (go_at_call 36; refine (KT _).mono ?_; clear KT; rintro e W3 ⟨rfl, b3⟩; replace O := O.later b3; clear b3)
      | ((with_reducible show wpList _ _ _ (Oper.mk _ (Op.store 4 _ _) _ _ _ _ :: _) _ _); refine wpList_own4 O rfl _ _ rfl true rfl rfl ?_; clear O; intro W4 O)
      | ((with_reducible show wpList _ _ _ (Oper.mk _ (Op.store 2 _ _) _ _ _ _ :: _) _ _); refine wpList_own2 O rfl _ _ rfl YV rfl rfl ?_; clear O; intro W5 O)
      | ((with_reducible show wpList _ _ _ (Oper.mk _ (Op.load 3 (Operand.tmp 49)) _ _ _ _ :: _) _ _); refine wpList_cell3w (by rfl) _ rfl _ rfl (O.range 4 _ rfl) ?_)
      | fail)
      refine wp_region_any (by kernel_rfl) ?_
      change wpAny _ _ _ _ _ _ _ (World.drew _)
      refine any_take 1 54 (.pointer (some ⟨g, off + i * 16, none⟩)) rfl rfl (by kernel_rfl) (by kernel_rfl) (by kernel_rfl) (fun _ _ _ h => h) (Or.inl ⟨by rfl, by intro w; go_simp⟩) ?_
      try simp only [Act.put, List.setIfInBounds_toArray, List.set_cons_zero, List.set_cons_succ]
      replace O := O.drew
      revert O
      generalize World.drew _ = WD
      intro O
      refine wpAny_until (fun W' => OwnI w W' g off l.length c1 l i ⟨⟨nm, ep, mr, al, 4, sc⟩, true, YV, ⟨h1, v1, o1, g1⟩, ⟨h2, v2, o2, g2⟩⟩) 18 _ _ _ _ ?_
      refine anyM_take 0 53 (.pointer (some ⟨g, off + i * 16, none⟩)) rfl rfl (by kernel_rfl) (by kernel_rfl) (by kernel_rfl) (fun _ _ _ h => h) (.inl (by kernel_rfl)) (by kernel_rfl) (Or.inl ⟨by rfl, by intro w hSw; go_simp⟩) (O) ?_
      try simp only [Act.put, List.setIfInBounds_toArray, List.set_cons_zero, List.set_cons_succ]
      refine anyM_take 2 55 (.int .i64 id) rfl rfl (by kernel_rfl) (by kernel_rfl) (by kernel_rfl) (fun _ _ _ h => h) (.inl (by kernel_rfl)) (by kernel_rfl) (Or.inl ⟨by rfl, by intro w hSw; go_simp⟩) (O) ?_
      try simp only [Act.put, List.setIfInBounds_toArray, List.set_cons_zero, List.set_cons_succ]
      refine anyM_take 3 56 (.int .i64 YV) rfl rfl (by kernel_rfl) (by kernel_rfl) (by kernel_rfl) (fun _ _ _ h => h) (.inl (by kernel_rfl)) (by kernel_rfl) (Or.inl ⟨by rfl, by intro w hSw; go_simp⟩) (O) ?_
      try simp only [Act.put, List.setIfInBounds_toArray, List.set_cons_zero, List.set_cons_succ]
      refine anyM_take 4 57 (.pointer (some ⟨g, off + i * 16, none⟩)) rfl rfl (by kernel_rfl) (by kernel_rfl) (by kernel_rfl) (fun _ _ _ h => h) (.inl (by kernel_rfl)) (by kernel_rfl) (Or.inl ⟨by rfl, by intro w hSw; go_simp⟩) (O) ?_
      try simp only [Act.put, List.setIfInBounds_toArray, List.set_cons_zero, List.set_cons_succ]
      refine anyM_take 5 58 (.pointer (some ⟨g, off + i * 16, none⟩)) rfl rfl (by kernel_rfl) (by kernel_rfl) (by kernel_rfl) (fun _ _ _ h => h) (.inl (by kernel_rfl)) (by kernel_rfl) (Or.inl ⟨by rfl, by intro w hSw; go_simp⟩) (O) ?_
      try simp only [Act.put, List.setIfInBounds_toArray, List.set_cons_zero, List.set_cons_succ]
      refine anyM_take 6 59 (.pointer (some ⟨g, off + i * 16 + 8, none⟩)) rfl rfl (by kernel_rfl) (by kernel_rfl) (by kernel_rfl) (fun _ _ _ h => h) (.inl (by kernel_rfl)) (by kernel_rfl) (Or.inl ⟨by rfl, by intro w hSw; go_simp⟩) (O) ?_
      try simp only [Act.put, List.setIfInBounds_toArray, List.set_cons_zero, List.set_cons_succ]
      refine anyM_take 7 60 (exv h1 v1 o1 g1) rfl rfl (by kernel_rfl) (by kernel_rfl) (by kernel_rfl) (fun _ _ _ h => h) (.inl (by kernel_rfl)) (by kernel_rfl) (Or.inl ⟨by rfl, fun X hSw => exec_loadX rfl rfl (rng_mn hSw.range)⟩) (O) ?_
      try simp only [Act.put, List.setIfInBounds_toArray, List.set_cons_zero, List.set_cons_succ]
      refine anyM_take 8 61 (.pointer (some ⟨g, off + i * 16, none⟩)) rfl rfl (by kernel_rfl) (by kernel_rfl) (by kernel_rfl) (fun _ _ _ h => h) (.inl (by kernel_rfl)) (by kernel_rfl) (Or.inl ⟨by rfl, by intro w hSw; go_simp⟩) (O) ?_
      try simp only [Act.put, List.setIfInBounds_toArray, List.set_cons_zero, List.set_cons_succ]
      refine anyM_take 9 62 (.pointer (some ⟨g, off + i * 16, none⟩)) rfl rfl (by kernel_rfl) (by kernel_rfl) (by kernel_rfl) (fun _ _ _ h => h) (.inl (by kernel_rfl)) (by kernel_rfl) (Or.inl ⟨by rfl, by intro w hSw; go_simp⟩) (O) ?_
      try simp only [Act.put, List.setIfInBounds_toArray, List.set_cons_zero, List.set_cons_succ]
      refine anyM_take 10 63 (.pointer (some ⟨g, off + i * 16 + 12, none⟩)) rfl rfl (by kernel_rfl) (by kernel_rfl) (by kernel_rfl) (fun _ _ _ h => h) (.inl (by kernel_rfl)) (by kernel_rfl) (Or.inl ⟨by rfl, by intro w hSw; go_simp⟩) (O) ?_
      try simp only [Act.put, List.setIfInBounds_toArray, List.set_cons_zero, List.set_cons_succ]
      refine anyM_take 11 64 (exv h2 v2 o2 g2) rfl rfl (by kernel_rfl) (by kernel_rfl) (by kernel_rfl) (fun _ _ _ h => h) (.inl (by kernel_rfl)) (by kernel_rfl) (Or.inl ⟨by rfl, fun X hSw => exec_loadX rfl rfl (rng_mx hSw.range)⟩) (O) ?_
      try simp only [Act.put, List.setIfInBounds_toArray, List.set_cons_zero, List.set_cons_succ]
      refine anyM_one 12 (by kernel_rfl) rfl (fun K hK => ?_)
      go_simp
      go_wp2_with (go_at_call 37; refine (KS _).mono ?_; clear KS; rintro e W6 ⟨rfl, b6⟩; replace O := O.later b6; clear b6)
      refine hK.out _ _ (fun _ => O) ?_
      clear hK
      try simp only [Act.put, List.setIfInBounds_toArray, List.set_cons_zero, List.set_cons_succ]
      refine anyM_take 13 52 ((.tuple #[exv h5 v5 o5 g5, exv h6 v6 o6 g6])) rfl rfl (by kernel_rfl) (by kernel_rfl) (by kernel_rfl) (fun _ _ _ h => h) (.inl (by kernel_rfl)) (by kernel_rfl) (Or.inl ⟨by rfl, by intro w hSw; go_simp⟩) (O) ?_
      try simp only [Act.put, List.setIfInBounds_toArray, List.set_cons_zero, List.set_cons_succ]
      refine anyM_take 14 66 (exv h5 v5 o5 g5) rfl rfl (by kernel_rfl) (by kernel_rfl) (by kernel_rfl) (fun _ _ _ h => h) (.inl (by kernel_rfl)) (by kernel_rfl) (Or.inl ⟨by rfl, by intro w hSw; go_simp⟩) (O) ?_
      try simp only [Act.put, List.setIfInBounds_toArray, List.set_cons_zero, List.set_cons_succ]
      refine anyM_take 16 68 (.pointer (some ⟨g, off + i * 16, none⟩)) rfl rfl (by kernel_rfl) (by kernel_rfl) (by kernel_rfl) (fun _ _ _ h => h) (.inr ⟨17, by kernel_rfl, by kernel_rfl, by kernel_rfl⟩) (by kernel_rfl) (Or.inl ⟨by rfl, by intro w hSw; go_simp⟩) (O) ?_
      try simp only [Act.put, List.setIfInBounds_toArray, List.set_cons_zero, List.set_cons_succ]
      refine anyM_take 17 69 (.pointer (some ⟨g, off + i * 16 + 8, none⟩)) rfl rfl (by kernel_rfl) (by kernel_rfl) (by kernel_rfl) (fun _ _ _ h => h) (.inl (by kernel_rfl)) (by kernel_rfl) (Or.inl ⟨by rfl, by intro w hSw; go_simp⟩) (O) ?_
      try simp only [Act.put, List.setIfInBounds_toArray, List.set_cons_zero, List.set_cons_succ]
      refine anyM_two 15 18 (by kernel_rfl) rfl rfl (fun K hK => ?_) (fun K hK => ?_)
      · go_simp
        refine hK.out _ _ (fun _ => O) ?_
        clear hK
        try simp only [Act.put, List.setIfInBounds_toArray, List.set_cons_zero, List.set_cons_succ]
        refine anyM_one 18 (by kernel_rfl) rfl (fun K hK => ?_)
        rw [if_pos (by rfl)]
        refine wp_ownmn O _ _ rfl _ _ _ _ rfl rfl ?_
        clear O
        intro W9 O
        refine hK.out _ _ (fun h => absurd h (by decide)) ?_
        clear hK
        try simp only [Act.put, List.setIfInBounds_toArray, List.set_cons_zero, List.set_cons_succ]
        refine anyM_one 19 (by kernel_rfl) rfl (fun K hK => ?_)
        go_simp
        refine hK.out _ _ (fun h => absurd h (by decide)) ?_
        clear hK
        try simp only [Act.put, List.setIfInBounds_toArray, List.set_cons_zero, List.set_cons_succ]
        refine anyM_one 20 (by kernel_rfl) rfl (fun K hK => ?_)
        go_simp
        refine hK.out _ _ (fun h => absurd h (by decide)) ?_
        clear hK
        try simp only [Act.put, List.setIfInBounds_toArray, List.set_cons_zero, List.set_cons_succ]
        refine anyM_one 21 (by kernel_rfl) rfl (fun K hK => ?_)
        rw [if_pos (by rfl)]
        refine wp_ownmx O _ _ rfl _ _ _ _ rfl rfl ?_
        clear O
        intro W9 O
        refine hK.out _ _ (fun h => absurd h (by decide)) ?_
        clear hK
        try simp only [Act.put, List.setIfInBounds_toArray, List.set_cons_zero, List.set_cons_succ]
        refine anyM_done (by kernel_rfl) ?_ _
        go_wp2
        exact bodyPost_ret (results_tmp2 rfl _ _ _) rfl (fin_V (by simp) O.lst (fun g2 off2 e => by cases e; exact O.ge) O.below)
      · rw [if_pos (by rfl)]
        refine wp_ownmn O _ _ rfl _ _ _ _ rfl rfl ?_
        clear O
        intro W9 O
        refine hK.out _ _ (fun h => absurd h (by decide)) ?_
        clear hK
        try simp only [Act.put, List.setIfInBounds_toArray, List.set_cons_zero, List.set_cons_succ]
        refine anyM_one 15 (by kernel_rfl) rfl (fun K hK => ?_)
        go_simp
        refine hK.out _ _ (fun h => absurd h (by decide)) ?_
        clear hK
        try simp only [Act.put, List.setIfInBounds_toArray, List.set_cons_zero, List.set_cons_succ]
        refine anyM_one 19 (by kernel_rfl) rfl (fun K hK => ?_)
        go_simp
        refine hK.out _ _ (fun h => absurd h (by decide)) ?_
        clear hK
        try simp only [Act.put, List.setIfInBounds_toArray, List.set_cons_zero, List.set_cons_succ]
        refine anyM_one 20 (by kernel_rfl) rfl (fun K hK => ?_)
        go_simp
        refine hK.out _ _ (fun h => absurd h (by decide)) ?_
        clear hK
        try simp only [Act.put, List.setIfInBounds_toArray, List.set_cons_zero, List.set_cons_succ]
        refine anyM_one 21 (by kernel_rfl) rfl (fun K hK => ?_)
        rw [if_pos (by rfl)]
        refine wp_ownmx O _ _ rfl _ _ _ _ rfl rfl ?_
        clear O
        intro W9 O
        refine hK.out _ _ (fun h => absurd h (by decide)) ?_
        clear hK
        try simp only [Act.put, List.setIfInBounds_toArray, List.set_cons_zero, List.set_cons_succ]
        refine anyM_done (by kernel_rfl) ?_ _
        go_wp2
        exact bodyPost_ret (results_tmp2 rfl _ _ _) rfl (fin_V (by simp) O.lst (fun g2 off2 e => by cases e; exact O.ge) O.below)
end Go.Proofs.YtoeebofappbneaaGreat
