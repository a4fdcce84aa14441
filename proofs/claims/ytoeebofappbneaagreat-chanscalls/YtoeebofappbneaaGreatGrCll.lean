/-
  Create, Delete and Set answer as the document does, for any fit states, name, kind and number (P18.5, P18.6): the law ChansCalls returns true for every input.
-/
import Derived.Test.YtoeebofappbneaaGreatGrTc
import Derived.Test.YtoeebofappbneaaGreatQ4
import Derived.Test.YtoeebofappbneaaGreatEX7
import Derived.Test.YtoeebofappbneaaGreatGrTa
import Derived.Test.YtoeebofappbneaaGreatY1
import Derived.Test.YtoeebofappbneaaGreatGrTd
import Derived.Test.YtoeebofappbneaaGreatRows
import Derived.Test.YtoeebofappbneaaGreatInT
import Derived.WalkKit
import Derived.ProofKit
import Derived.OpenShut
import Derived.ShutString
import Derived.ChangeOld
import Derived.Below
import Derived.SizedLaws
namespace Go.Proofs.YtoeebofappbneaaGreat
open Go.ChangeShapes Go.WideShapes Go.ChangeAt Go.RowKit Go.Maps Go.Shelf
set_option linter.unusedVariables false
set_option linter.unusedSimpArgs false

set_option maxRecDepth 100000 in
set_option maxHeartbeats 8000000 in
theorem rcreate_anyS (a : Option Addr) (cap : Nat) (l : List ST) (id : Int) (name : ByteArray) (kind scale : Int) (w : World) (hr : RdT w a l.length cap l) (hf : fitL l = true) (hs : (name.size : Int) ≤ 9223372036854775807) : Calls Tryz.prog 9 #[.slice a l.length cap, .int .i64 id, .string name, .int .i64 kind, .int .i64 scale] w (AnsV w (crS l id name kind scale) (.int .i64 (crE (recs l) name kind scale))) := by
  have M := Mem.nil w
  have HFL : Hid (fitL l = true) := hf
  have KR : ∀ W, Below w.heap.size w W → Calls Tryz.prog 21 #[.slice a l.length cap] W (Ans W (recs l)) := fun W b => rrecords_any a _ cap l W (hr.below b)
  obtain ⟨LL, hLL⟩ : ∃ LL, (if crE (recs l) name kind scale = 0 then ptL (recs l) (crM (recs l) id name kind scale) else recs l) = LL := ⟨_, rfl⟩
  obtain ⟨X, hX⟩ : ∃ X, crE (recs l) name kind scale = X := ⟨_, rfl⟩
  have KL : ∀ (a2 : Option Addr) (c2 : Nat) (W : World), LstC W a2 (recs l).length c2 (recs l) → Calls Tryz.prog 31 #[.slice a2 (recs l).length c2, .int .i64 id, .string name, .int .i64 kind, .int .i64 scale] W (AnsL W LL X) := fun a2 c2 W L2 => by
    have := rcreate_any a2 c2 (recs l) id name kind scale W (rd_recs8 HFL.out L2) (by have := recs_small HFL.out; omega) (fd_ep (fitL_iff.1 HFL.out).1 name) hs
    rw [hLL, hX] at this
    exact this
  by_cases h0 : X = 0
  case neg =>
    have hS : crS l id name kind scale = l := if_neg (by rw [hX]; exact h0)
    rw [hS, hX]
    have h0b : (X != 0) = true := by simpa using h0
    clear hLL hX hS h0 hf hs
    go_enter Tryz.func9, Tryz.ntmps9
    go_wp2_with (first
      | (go_at_call 21; refine (KR _ M.below).mono ?_; clear KR; rintro e W1 ⟨a2, c2, rfl, L2, o2, b1⟩; replace M := M.later b1; clear b1 o2; have KLL := KL a2 c2 _ L2; clear KL)
      | (go_at_call 31; refine KLL.mono ?_; clear KLL; rintro e W5 ⟨a3, c3, rfl, L3, o3, b3⟩; replace M := M.later b3; clear b3 o3)
      | (go_at_call 7; refine (rcopy_any a cap l _ (hr.below M.below)).mono ?_; rintro e W2 ⟨a4, c4, rfl, L4, o4, b4⟩; have hMS := M.below.size; replace M := M.later b4; clear b4))
    exact bodyPost_ret (results_tmp2 rfl _ _ _) rfl ⟨a4, c4, rfl, L4, fun g off e => Nat.le_trans hMS (o4 g off e), M.below⟩
  case pos =>
    have h0' : crE (recs l) name kind scale = 0 := hX.trans h0
    have hS : crS l id name kind scale = anw l (crM (recs l) id name kind scale) := if_pos h0'
    have hI : LL = ins (recs l) (crM (recs l) id name kind scale) := by rw [← hLL, if_pos h0', ptL_ins (fitL_rise HFL.out)]
    have hbg : bgn l LL = anw l (crM (recs l) id name kind scale) := by rw [hI]; exact cr_bgn HFL.out id name kind scale
    rw [hS, hX]
    subst h0
    have HLN : Hid (LL.length ≤ 9) := by show _ ≤ _; rw [hI]; have := ins_len (recs l) (crM (recs l) id name kind scale); have := recs_small HFL.out; omega
    obtain ⟨AN, hAN⟩ : ∃ AN, anw l (crM (recs l) id name kind scale) = AN := ⟨_, rfl⟩
    rw [hAN] at hbg ⊢
    have KG : ∀ (a3 : Option Addr) (c3 : Nat) W, RdT W a l.length cap l → LstC W a3 LL.length c3 LL → Calls Tryz.prog 32 #[.slice a l.length cap, .slice a3 LL.length c3] W (AnsT W AN) := fun a3 c3 W R L3 => by
      have := rbegun_any a a3 _ _ cap c3 l LL W R (L3.rd (by have := HLN.out; omega)) (by have := HLN.out; omega)
      rw [hbg] at this
      exact this
    clear hLL hX hS h0' hf hI hbg hAN hs
    go_enter Tryz.func9, Tryz.ntmps9
    go_wp2_with (first
      | (go_at_call 21; refine (KR _ M.below).mono ?_; clear KR; rintro e W1 ⟨a2, c2, rfl, L2, o2, b1⟩; replace M := M.later b1; clear b1 o2; have KLL := KL a2 c2 _ L2; clear KL)
      | (go_at_call 31; refine KLL.mono ?_; clear KLL; rintro e W5 ⟨a3, c3, rfl, L3, o3, b3⟩; replace M := M.later b3; clear b3 o3)
      | (go_at_call 32; refine (KG _ _ _ (hr.below M.below) L3).mono ?_; rintro e W2 ⟨a4, c4, rfl, L4, o4, b4⟩; have hMS := M.below.size; replace M := M.later b4; clear b4))
    exact bodyPost_ret (results_tmp2 rfl _ _ _) rfl ⟨a4, c4, rfl, L4, fun g off e => Nat.le_trans hMS (o4 g off e), M.below⟩
set_option maxRecDepth 100000 in
set_option maxHeartbeats 8000000 in
theorem rdelete_anyS (a : Option Addr) (cap : Nat) (l : List ST) (id : Int) (name : ByteArray) (w : World) (hr : RdT w a l.length cap l) (hf : fitL l = true) (hs : (name.size : Int) ≤ 9223372036854775807) : Calls Tryz.prog 12 #[.slice a l.length cap, .int .i64 id, .string name] w (AnsV w (dlS l id name) (.int .i64 (dlE (recs l) name))) := by
  have M := Mem.nil w
  have HFL : Hid (fitL l = true) := hf
  have KR : ∀ W, Below w.heap.size w W → Calls Tryz.prog 21 #[.slice a l.length cap] W (Ans W (recs l)) := fun W b => rrecords_any a _ cap l W (hr.below b)
  obtain ⟨LL, hLL⟩ : ∃ LL, (if dlE (recs l) name = 0 then ptL (recs l) (dlM (recs l) id name) else recs l) = LL := ⟨_, rfl⟩
  obtain ⟨X, hX⟩ : ∃ X, dlE (recs l) name = X := ⟨_, rfl⟩
  have KL : ∀ (a2 : Option Addr) (c2 : Nat) (W : World), LstC W a2 (recs l).length c2 (recs l) → Calls Tryz.prog 34 #[.slice a2 (recs l).length c2, .int .i64 id, .string name] W (AnsL W LL X) := fun a2 c2 W L2 => by
    have := rdelete_any a2 c2 (recs l) id name W (rd_recs8 HFL.out L2) (by have := recs_small HFL.out; omega) (fd_ep (fitL_iff.1 HFL.out).1 name)
    rw [hLL, hX] at this
    exact this
  by_cases h0 : X = 0
  case neg =>
    have hS : dlS l id name = l := if_neg (by rw [hX]; exact h0)
    rw [hS, hX]
    have h0b : (X != 0) = true := by simpa using h0
    clear hLL hX hS h0 hf hs
    go_enter Tryz.func12, Tryz.ntmps12
    go_wp2_with (first
      | (go_at_call 21; refine (KR _ M.below).mono ?_; clear KR; rintro e W1 ⟨a2, c2, rfl, L2, o2, b1⟩; replace M := M.later b1; clear b1 o2; have KLL := KL a2 c2 _ L2; clear KL)
      | (go_at_call 34; refine KLL.mono ?_; clear KLL; rintro e W5 ⟨a3, c3, rfl, L3, o3, b3⟩; replace M := M.later b3; clear b3 o3)
      | (go_at_call 7; refine (rcopy_any a cap l _ (hr.below M.below)).mono ?_; rintro e W2 ⟨a4, c4, rfl, L4, o4, b4⟩; have hMS := M.below.size; replace M := M.later b4; clear b4))
    exact bodyPost_ret (results_tmp2 rfl _ _ _) rfl ⟨a4, c4, rfl, L4, fun g off e => Nat.le_trans hMS (o4 g off e), M.below⟩
  case pos =>
    have h0' : dlE (recs l) name = 0 := hX.trans h0
    have hS : dlS l id name = anw l (dlM (recs l) id name) := if_pos h0'
    have hI : LL = ins (recs l) (dlM (recs l) id name) := by rw [← hLL, if_pos h0', ptL_ins (fitL_rise HFL.out)]
    have hbg : bgn l LL = anw l (dlM (recs l) id name) := by rw [hI]; exact dl_bgn HFL.out id h0'
    rw [hS, hX]
    subst h0
    have HLN : Hid (LL.length ≤ 9) := by show _ ≤ _; rw [hI]; have := ins_len (recs l) (dlM (recs l) id name); have := recs_small HFL.out; omega
    obtain ⟨AN, hAN⟩ : ∃ AN, anw l (dlM (recs l) id name) = AN := ⟨_, rfl⟩
    rw [hAN] at hbg ⊢
    have KG : ∀ (a3 : Option Addr) (c3 : Nat) W, RdT W a l.length cap l → LstC W a3 LL.length c3 LL → Calls Tryz.prog 32 #[.slice a l.length cap, .slice a3 LL.length c3] W (AnsT W AN) := fun a3 c3 W R L3 => by
      have := rbegun_any a a3 _ _ cap c3 l LL W R (L3.rd (by have := HLN.out; omega)) (by have := HLN.out; omega)
      rw [hbg] at this
      exact this
    clear hLL hX hS h0' hf hI hbg hAN hs
    go_enter Tryz.func12, Tryz.ntmps12
    go_wp2_with (first
      | (go_at_call 21; refine (KR _ M.below).mono ?_; clear KR; rintro e W1 ⟨a2, c2, rfl, L2, o2, b1⟩; replace M := M.later b1; clear b1 o2; have KLL := KL a2 c2 _ L2; clear KL)
      | (go_at_call 34; refine KLL.mono ?_; clear KLL; rintro e W5 ⟨a3, c3, rfl, L3, o3, b3⟩; replace M := M.later b3; clear b3 o3)
      | (go_at_call 32; refine (KG _ _ _ (hr.below M.below) L3).mono ?_; rintro e W2 ⟨a4, c4, rfl, L4, o4, b4⟩; have hMS := M.below.size; replace M := M.later b4; clear b4))
    exact bodyPost_ret (results_tmp2 rfl _ _ _) rfl ⟨a4, c4, rfl, L4, fun g off e => Nat.le_trans hMS (o4 g off e), M.below⟩
end Go.Proofs.YtoeebofappbneaaGreat

namespace Go.Proofs.YtoeebofappbneaaGreat
open Go.ChangeShapes Go.WideShapes Go.ChangeAt Go.RowKit Go.Maps Go.Shelf
set_option linter.unusedVariables false
set_option linter.unusedSimpArgs false

theorem rtimes_any (a b : Int) (w : World) : Calls Tryz.prog 74 #[.int .i64 a, .int .i64 b] w fun e w' => e = .returned (.tuple #[.int .i64 (mulV a b), .int .i64 (mulE a b)]) ∧ w' = w := by
  have KA := fun W => rflow_any a W
  have KB := fun W => rflow_any b W
  have HV : mulV a b = if mulE a b = 0 then a * b else 0 := rfl
  have HE : mulE a b = if E.flowB a = true ∧ E.flowB b = true ∧ E.flowB (a * b) = true then 0 else 10 := rfl
  obtain ⟨V, hV⟩ : ∃ V, mulV a b = V := ⟨_, rfl⟩
  obtain ⟨X, hX⟩ : ∃ X, mulE a b = X := ⟨_, rfl⟩
  rw [hV, hX]
  rw [hV, hX] at HV
  rw [hX] at HE
  cases ha : E.flowB a with
  | false =>
    rw [ha] at KA HE
    have HE' : X = 10 := HE.trans (if_neg (fun h => by cases h.1))
    have HV' : V = 0 := HV.trans (if_neg (by rw [HE']; decide))
    subst HE' HV'
    clear HE HV hV hX ha
    go_enter Tryz.func74, Tryz.ntmps74
    go_wp2_with (first
      | (go_at_call 22; refine (KA _).mono ?_; rintro e W2 ⟨rfl, rfl⟩))
    exact bodyPost_ret (results_tmp2 rfl _ _ _) rfl ⟨rfl, rfl⟩
  | true =>
  cases hb : E.flowB b with
  | false =>
    rw [ha] at KA
    rw [hb] at KB
    have HE' : X = 10 := HE.trans (if_neg (by rw [hb]; simp))
    have HV' : V = 0 := HV.trans (if_neg (by rw [HE']; decide))
    subst HE' HV'
    clear HE HV hV hX ha hb
    go_enter Tryz.func74, Tryz.ntmps74
    go_wp2_with (first
      | (go_at_call 22; refine (KA _).mono ?_; clear KA; rintro e W2 ⟨rfl, rfl⟩)
      | (go_at_call 22; refine (KB _).mono ?_; clear KB; rintro e W2 ⟨rfl, rfl⟩))
    exact bodyPost_ret (results_tmp2 rfl _ _ _) rfl ⟨rfl, rfl⟩
  | true =>
    have hw := mul_wrap ha hb
    rw [ha] at KA
    rw [hb] at KB
    obtain ⟨p, hp⟩ : ∃ p, a * b = p := ⟨_, rfl⟩
    have KC := fun W => rflow_any p W
    rw [hp] at HE HV
    have HW : Hid (IntKind.i64.wrap (a * b) = p) := by show _ = _; rw [hw]; exact hp
    have hwp : IntKind.i64.wrap (a * b) = p := HW.out
    cases hc : E.flowB p with
    | false =>
      rw [hc] at KC
      have HE' : X = 10 := HE.trans (if_neg (by rw [hc]; simp))
      have HV' : V = 0 := HV.trans (if_neg (by rw [HE']; decide))
      subst HE' HV'
      clear HE HV hV hX ha hb hc hp hw HW
      go_enter Tryz.func74, Tryz.ntmps74
      go_wp2_with (first
        | (go_at_call 22; refine (KA _).mono ?_; clear KA; rintro e W2 ⟨rfl, rfl⟩)
        | (go_at_call 22; refine (KB _).mono ?_; clear KB; rintro e W2 ⟨rfl, rfl⟩)
        | (go_at_call 22; refine (KC _).mono ?_; clear KC; rintro e W2 ⟨rfl, rfl⟩))
      exact bodyPost_ret (results_tmp2 rfl _ _ _) rfl ⟨rfl, rfl⟩
    | true =>
      rw [hc] at KC
      have HE' : X = 0 := HE.trans (if_pos ⟨ha, hb, hc⟩)
      have HV' : V = p := HV.trans (if_pos HE')
      subst HE'
      rw [HV']
      clear HE HV hV hX ha hb hc hp hw HW HV'
      go_enter Tryz.func74, Tryz.ntmps74
      go_wp2_with (first
        | (go_at_call 22; refine (KA _).mono ?_; clear KA; rintro e W2 ⟨rfl, rfl⟩)
        | (go_at_call 22; refine (KB _).mono ?_; clear KB; rintro e W2 ⟨rfl, rfl⟩)
        | (go_at_call 22; refine (KC _).mono ?_; clear KC; rintro e W2 ⟨rfl, rfl⟩))
      exact bodyPost_ret (results_tmp2 rfl _ _ _) rfl ⟨rfl, rfl⟩
theorem mul_one' (x : Int) : mulE x 1 = (if E.flowB x = true then 0 else 10) ∧ mulV x 1 = (if E.flowB x = true then x else 0) := by
  unfold mulV mulE
  rw [Int.mul_one]
  cases E.flowB x with
  | true => exact ⟨rfl, rfl⟩
  | false => exact ⟨rfl, rfl⟩
theorem tldA (x s : Int) : tldE 1 x s = mulE x s ∧ tldV 1 x s = mulV x s := by
  unfold tldV tldE mulV
  simp
theorem tldB (x s : Int) : tldE 2 x s = (if x ≠ 0 ∧ x ≠ 1 then 49 else mulE x s) ∧ tldV 2 x s = (if x ≠ 0 ∧ x ≠ 1 then 0 else mulV x s) := by
  unfold tldV tldE mulV
  by_cases h : x ≠ 0 ∧ x ≠ 1 <;> simp [h]
theorem tldC (x s : Int) : tldE 3 x s = (if mulE x x = 0 then mulE (mulV x x) s else mulE x x) ∧ tldV 3 x s = (if mulE x x = 0 then mulV (mulV x x) s else 0) := by
  unfold tldV tldE mulV
  rcases mulE_or x x with h | h <;> simp [h]
theorem tldD (x s : Int) : tldE 4 x s = mulE x 1 ∧ tldV 4 x s = mulV x 1 := by
  rw [(mul_one' x).1, (mul_one' x).2]
  unfold tldV tldE
  simp
set_option maxRecDepth 100000 in
set_option maxHeartbeats 4000000 in
theorem rtold_any (kd x s : Int) (w : World) (hk : kindB kd = true) : Calls Tryz.prog 39 #[.int .i64 kd, .int .i64 x, .int .i64 s] w fun e w' => e = .returned (.tuple #[.int .i64 (tldV kd x s), .int .i64 (tldE kd x s)]) ∧ w' = w := by
  have h4 : kd = 1 ∨ kd = 2 ∨ kd = 3 ∨ kd = 4 := by
    have : 1 ≤ kd ∧ kd ≤ 4 := of_decide_eq_true hk
    omega
  clear hk
  rcases h4 with h | h | h | h
  · subst h
    rw [(tldA x s).1, (tldA x s).2]
    have K1 := fun W => rtimes_any x s W
    obtain ⟨V, hV⟩ : ∃ V, mulV x s = V := ⟨_, rfl⟩
    obtain ⟨X, hX⟩ : ∃ X, mulE x s = X := ⟨_, rfl⟩
    rw [hV, hX] at K1 ⊢
    clear hV hX
    go_enter Tryz.func39, Tryz.ntmps39
    go_wp2_with (go_at_call 74; refine (K1 _).mono ?_; clear K1; rintro e W2 ⟨rfl, rfl⟩)
    exact bodyPost_ret (results_tmp2 rfl _ _ _) rfl ⟨rfl, rfl⟩
  · subst h
    rw [(tldB x s).1, (tldB x s).2]
    by_cases h0 : x ≠ 0 ∧ x ≠ 1
    case pos =>
      rw [if_pos h0, if_pos h0]
      have h0b : (x != 0) = true := by simpa using h0.1
      have h1b : (x != 1) = true := by simpa using h0.2
      clear h0
      go_enter Tryz.func39, Tryz.ntmps39
      go_wp2
      exact bodyPost_ret (results_tmp2 rfl _ _ _) rfl ⟨rfl, rfl⟩
    case neg =>
      rw [if_neg h0, if_neg h0]
      have K1 := fun W => rtimes_any x s W
      obtain ⟨V, hV⟩ : ∃ V, mulV x s = V := ⟨_, rfl⟩
      obtain ⟨X, hX⟩ : ∃ X, mulE x s = X := ⟨_, rfl⟩
      rw [hV, hX] at K1 ⊢
      clear hV hX
      by_cases hx : x = 0
      case pos =>
        subst hx
        clear h0
        go_enter Tryz.func39, Tryz.ntmps39
        go_wp2_with (go_at_call 74; refine (K1 _).mono ?_; clear K1; rintro e W2 ⟨rfl, rfl⟩)
        exact bodyPost_ret (results_tmp2 rfl _ _ _) rfl ⟨rfl, rfl⟩
      case neg =>
        have hx1 : x = 1 := by
          by_cases h1 : x = 1
          · exact h1
          · exact absurd ⟨hx, h1⟩ h0
        subst hx1
        clear h0 hx
        go_enter Tryz.func39, Tryz.ntmps39
        go_wp2_with (go_at_call 74; refine (K1 _).mono ?_; clear K1; rintro e W2 ⟨rfl, rfl⟩)
        exact bodyPost_ret (results_tmp2 rfl _ _ _) rfl ⟨rfl, rfl⟩
  · subst h
    rw [(tldC x s).1, (tldC x s).2]
    have K1 := fun W => rtimes_any x x W
    have K2 := fun W => rtimes_any (mulV x x) s W
    obtain ⟨V, hV⟩ : ∃ V, mulV x x = V := ⟨_, rfl⟩
    obtain ⟨X, hX⟩ : ∃ X, mulE x x = X := ⟨_, rfl⟩
    rw [hV] at K1 K2 ⊢
    rw [hX] at K1 ⊢
    clear hV hX
    by_cases h0 : X = 0
    case pos =>
      rw [if_pos h0, if_pos h0]
      subst h0
      obtain ⟨V2, hV2⟩ : ∃ V2, mulV V s = V2 := ⟨_, rfl⟩
      obtain ⟨X2, hX2⟩ : ∃ X2, mulE V s = X2 := ⟨_, rfl⟩
      rw [hV2, hX2] at K2 ⊢
      clear hV2 hX2
      go_enter Tryz.func39, Tryz.ntmps39
      go_wp2_with (first
        | (go_at_call 74; refine (K1 _).mono ?_; clear K1; rintro e W2 ⟨rfl, rfl⟩)
        | (go_at_call 74; refine (K2 _).mono ?_; clear K2; rintro e W2 ⟨rfl, rfl⟩))
      exact bodyPost_ret (results_tmp2 rfl _ _ _) rfl ⟨rfl, rfl⟩
    case neg =>
      rw [if_neg h0, if_neg h0]
      have h0b : (X != 0) = true := by simpa using h0
      clear h0
      go_enter Tryz.func39, Tryz.ntmps39
      go_wp2_with (first
        | (go_at_call 74; refine (K1 _).mono ?_; clear K1; rintro e W2 ⟨rfl, rfl⟩))
      exact bodyPost_ret (results_tmp2 rfl _ _ _) rfl ⟨rfl, rfl⟩
  · subst h
    rw [(tldD x s).1, (tldD x s).2]
    have K1 := fun W => rtimes_any x 1 W
    obtain ⟨V, hV⟩ : ∃ V, mulV x 1 = V := ⟨_, rfl⟩
    obtain ⟨X, hX⟩ : ∃ X, mulE x 1 = X := ⟨_, rfl⟩
    rw [hV, hX] at K1 ⊢
    clear hV hX
    go_enter Tryz.func39, Tryz.ntmps39
    go_wp2_with (go_at_call 74; refine (K1 _).mono ?_; clear K1; rintro e W2 ⟨rfl, rfl⟩)
    exact bodyPost_ret (results_tmp2 rfl _ _ _) rfl ⟨rfl, rfl⟩
end Go.Proofs.YtoeebofappbneaaGreat

namespace Go.Proofs.YtoeebofappbneaaGreat
open Go.ChangeShapes Go.WideShapes Go.ChangeAt Go.RowKit Go.Maps Go.Shelf
set_option linter.unusedVariables false
set_option linter.unusedSimpArgs false

theorem wpList_ownmnF {ops : Array Oper} {rest : List Oper} {o : Oper} {A : Act} {w W : World} {Q : Exit → Act → World → Prop} {g off n cap i : Nat} {l : List ST} {nm : ByteArray} {ep mr : Int} {al : Bool} {kd sc : Int} {hv : Bool} {iv : Int} {h1 : Bool} {v1 o1 g1 : Int} {h2 : Bool} {v2 o2 g2 : Int} (O : OwnI w W g off n cap l i ⟨⟨nm, ep, mr, al, kd, sc⟩, hv, iv, ⟨h1, v1, o1, g1⟩, ⟨h2, v2, o2, g2⟩⟩) (hgd : o.guard = none) (x y : Operand) (ho : o.op = .store 38 x y) (h : Bool) (v r q : Int) (hx : A.eval x = .pointer (some ⟨g, off + i * 16 + 8, none⟩)) (hy : A.eval y = exv h v r q)
    (H : ∀ W', OwnI w W' g off n cap l i ⟨⟨nm, ep, mr, al, kd, sc⟩, hv, iv, ⟨h, v, r, q⟩, ⟨h2, v2, o2, g2⟩⟩ → (∀ b, b ≠ g → W'.heap[b]? = W.heap[b]?) → wpList Tryz.prog ops Q rest (A.put o.dst undef) W') : wpList Tryz.prog ops Q (o :: rest) A W := by
  obtain ⟨cur', hst, O2⟩ := O.setN (s' := ⟨⟨nm, ep, mr, al, kd, sc⟩, hv, iv, ⟨h, v, r, q⟩, ⟨h2, v2, o2, g2⟩⟩) 8 [.bool h, .int .i64 v, .int .i64 r, .int .i64 q] (by simp) (by simp [Value.oneCell']) rfl
  have hi : (Tryz.prog.info? 38).map (·.size) = some 4 := by kernel_rfl
  refine wpList_plain hgd fun K hK => ?_
  unfold Oper.wp execOp
  cases hq : Tryz.prog.info? 38 with
  | none => simp [hq] at hi
  | some j =>
    have hs : j.size = 4 := by simpa [hq] using hi
    simp only [ho, hx, hy]
    have hrun : (Instr.storeAt 38 (.pointer (some ⟨g, off + i * 16 + 8, none⟩)) (exv h v r q)).run Tryz.prog W = .ok () (W.setRow g cur') := by
      simp [Instr.storeAt, Instr.sureAddr, storeVar, sizeOf, typeInfo, hq, Value.cells, hs, hst]
    simp only [Sem.run_bind, hrun, Result.andThen_ok, Sem.run_pure]
    exact hK _ _ (H _ O2 (fun b hb => setRow_other _ _ _ _ hb))
theorem wpList_ownmxF {ops : Array Oper} {rest : List Oper} {o : Oper} {A : Act} {w W : World} {Q : Exit → Act → World → Prop} {g off n cap i : Nat} {l : List ST} {nm : ByteArray} {ep mr : Int} {al : Bool} {kd sc : Int} {hv : Bool} {iv : Int} {h1 : Bool} {v1 o1 g1 : Int} {h2 : Bool} {v2 o2 g2 : Int} (O : OwnI w W g off n cap l i ⟨⟨nm, ep, mr, al, kd, sc⟩, hv, iv, ⟨h1, v1, o1, g1⟩, ⟨h2, v2, o2, g2⟩⟩) (hgd : o.guard = none) (x y : Operand) (ho : o.op = .store 38 x y) (h : Bool) (v r q : Int) (hx : A.eval x = .pointer (some ⟨g, off + i * 16 + 12, none⟩)) (hy : A.eval y = exv h v r q)
    (H : ∀ W', OwnI w W' g off n cap l i ⟨⟨nm, ep, mr, al, kd, sc⟩, hv, iv, ⟨h1, v1, o1, g1⟩, ⟨h, v, r, q⟩⟩ → (∀ b, b ≠ g → W'.heap[b]? = W.heap[b]?) → wpList Tryz.prog ops Q rest (A.put o.dst undef) W') : wpList Tryz.prog ops Q (o :: rest) A W := by
  obtain ⟨cur', hst, O2⟩ := O.setN (s' := ⟨⟨nm, ep, mr, al, kd, sc⟩, hv, iv, ⟨h1, v1, o1, g1⟩, ⟨h, v, r, q⟩⟩) 12 [.bool h, .int .i64 v, .int .i64 r, .int .i64 q] (by simp) (by simp [Value.oneCell']) rfl
  have hi : (Tryz.prog.info? 38).map (·.size) = some 4 := by kernel_rfl
  refine wpList_plain hgd fun K hK => ?_
  unfold Oper.wp execOp
  cases hq : Tryz.prog.info? 38 with
  | none => simp [hq] at hi
  | some j =>
    have hs : j.size = 4 := by simpa [hq] using hi
    simp only [ho, hx, hy]
    have hrun : (Instr.storeAt 38 (.pointer (some ⟨g, off + i * 16 + 12, none⟩)) (exv h v r q)).run Tryz.prog W = .ok () (W.setRow g cur') := by
      simp [Instr.storeAt, Instr.sureAddr, storeVar, sizeOf, typeInfo, hq, Value.cells, hs, hst]
    simp only [Sem.run_bind, hrun, Result.andThen_ok, Sem.run_pure]
    exact hK _ _ (H _ O2 (fun b hb => setRow_other _ _ _ _ hb))
theorem wpList_loadw33 {ops : Array Oper} {rest : List Oper} {o : Oper} {A : Act} {W : World} {Q : Exit → Act → World → Prop} (hgd : Region.wanted o (yielded ops A.tmps) = true) (x : Operand) (ho : o.op = .load 38 x) {k : Nat} {h : Bool} {v r q : Int} (hx : A.eval x = .pointer (some ⟨k, 0, none⟩)) (hc : W.heap[k]? = some (.cells #[.bool h, .int .i64 v, .int .i64 r, .int .i64 q] 38 (0, 0)))
    (H : wpList Tryz.prog ops Q rest (A.put o.dst (exv h v r q)) W) : wpList Tryz.prog ops Q (o :: rest) A W := by
  unfold wpList
  rw [if_pos hgd]
  left
  unfold Oper.wp
  rw [exec_loadr ho rtX hx hc rfl]
  exact H
theorem rset_wrap {id y : Int} {a b : E.EX} (hi : E.nodeB id = true) (hy : E.flowB y = true) (f1 : E.fitB a = true) (f2 : E.fitB b = true) : ∀ W, Calls Tryz.prog 40 #[.int .i64 id, .int .i64 y, a.val, b.val] W fun e w' => e = .returned (E.two (E.setX id y a b)) ∧ Below W.heap.size W w' := fun W => by
  obtain ⟨h1, v1, o1, g1⟩ := a
  obtain ⟨h2, v2, o2, g2⟩ := b
  exact E.rset_any id y h1 v1 o1 g1 h2 v2 o2 g2 W hi hy f1 f2
end Go.Proofs.YtoeebofappbneaaGreat

namespace Go.Proofs.YtoeebofappbneaaGreat
open Go.ChangeShapes Go.WideShapes Go.ChangeAt Go.RowKit Go.Maps Go.Shelf
set_option linter.unusedVariables false
set_option linter.unusedSimpArgs false

set_option maxRecDepth 100000 in
set_option maxHeartbeats 16000000 in
theorem rset_anyS (a : Option Addr) (cap : Nat) (l : List ST) (id : Int) (name : ByteArray) (x : Int) (w : World) (hr : RdT w a l.length cap l) (hf : fitL l = true) (hid : nodeB id = true) : Calls Tryz.prog 14 #[.slice a l.length cap, .int .i64 id, .string name, .int .i64 x] w (AnsV w (stS l id name x) (.int .i64 (stE l name x))) := by
  have B0 := Below.refl w.heap.size w
  cases hp : plc name l with
  | none =>
    have HPI : Hid (plI name l = -1) := plI_none hp
    have hS : stS l id name x = l := by unfold stS; rw [hp]
    have hE : stE l name x = 44 := by unfold stE; rw [hp]
    rw [hS, hE]
    clear hp hS hE hf
    go_enter Tryz.func14, Tryz.ntmps14
    go_wp2_with (first
      | (go_at_call 38; refine (rplace_any a _ cap l name _ (hr.below B0)).mono ?_; rintro e W1 ⟨rfl, b1⟩; rw [HPI.out])
      | (go_at_call 7; refine (rcopy_any a cap l _ (hr.below b1)).mono ?_; rintro e W2 ⟨a1, c1, rfl, L1, fo1, b2⟩))
    exact bodyPost_ret (results_tmp2 rfl _ _ _) rfl (fin_V rfl L1 (fun g off e => Nat.le_trans b1.size (fo1 g off e)) (b1.trans (b2.mono b1.size)))
  | some i =>
    obtain ⟨hi, hpp, _⟩ := plc_at hp
    have hok := ok_at hf hi
    have hff := ok_fits hok
    have hk0 : kindB (l.getD i ST.z).c.kd = true := (fit_parts (fitsB_fit (fitL_iff.1 hf).1 _ (recs_mem (by rw [List.getD_eq_getElem?_getD, List.getElem?_eq_getElem hi]; exact List.getElem_mem hi)))).2.1
    have HPI : Hid (plI name l = (i : Int)) := plI_some hp
    have hS : stS l id name x = if tldE (l.getD i ST.z).c.kd x (l.getD i ST.z).c.sc = 0 then l.set i (setT id (tldV (l.getD i ST.z).c.kd x (l.getD i ST.z).c.sc) (l.getD i ST.z)) else l := by unfold stS; rw [hp]
    have hE : stE l name x = tldE (l.getD i ST.z).c.kd x (l.getD i ST.z).c.sc := by unfold stE; rw [hp]
    have htf : tldE (l.getD i ST.z).c.kd x (l.getD i ST.z).c.sc = 0 → E.flowB (tldV (l.getD i ST.z).c.kd x (l.getD i ST.z).c.sc) = true := tld_flow
    rw [hS, hE]
    have hset : l.set i (l.getD i ST.z) = l := set_getD hi
    obtain ⟨⟨⟨nm, ep, mr, al, kd, sc⟩, hv, iv, ⟨h1, v1, o1, g1⟩, ⟨h2, v2, o2, g2⟩⟩, hri⟩ : ∃ r, l.getD i ST.z = r := ⟨_, rfl⟩
    have HX : Hid (l.getD i ST.z = ⟨⟨nm, ep, mr, al, kd, sc⟩, hv, iv, ⟨h1, v1, o1, g1⟩, ⟨h2, v2, o2, g2⟩⟩) := hri
    have KC := fun W (b : Below w.heap.size w W) => rcopy_any a cap l W (hr.below b)
    obtain ⟨n, hn⟩ : ∃ n, l.length = n := ⟨_, rfl⟩
    have HLN : Hid (l.length = n) := hn
    have KP := fun W (b : Below w.heap.size w W) => rplace_any a _ cap l name W (hr.below b)
    have KAN : Hid (AnsT = fun (w : World) (l : List ST) (e : Ending) (w' : World) => ∃ a' cap', e = .returned (.slice a' l.length cap') ∧ LstT w' a' l.length cap' l ∧ (∀ g off, a' = some ⟨g, off, none⟩ → w.heap.size ≤ g) ∧ Below w.heap.size w w') := rfl
    rw [KAN.out] at KC
    dsimp only at KC
    have HI : Hid (i < n) := by show i < n; rw [← hn]; exact hi
    have hat := hr.at i hi
    rw [hn] at hr KC KP ⊢
    obtain ⟨b, off, rfl, hb1, hd, hra⟩ := hat
    rw [hri] at hra hk0 hset htf hff ⊢
    dsimp only at hk0 htf hff ⊢
    have KR : ∀ X, Below w.heap.size w X → X.rangeAt b (off + i * 16) (ST.cells ⟨⟨nm, ep, mr, al, kd, sc⟩, hv, iv, ⟨h1, v1, o1, g1⟩, ⟨h2, v2, o2, g2⟩⟩) := fun X h => range_later hra hb1 h
    have KT := fun W => rtold_any kd x sc W hk0
    obtain ⟨XE, hXE⟩ : ∃ XE, tldE kd x sc = XE := ⟨_, rfl⟩
    obtain ⟨YV, hYV⟩ : ∃ YV, tldV kd x sc = YV := ⟨_, rfl⟩
    rw [hXE, hYV] at KT htf ⊢
    have hiI : (i : Int) < (n : Int) := by have := HI.out; omega
    have hi0 : ¬ (i : Int) < 0 := by omega
    clear hXE hYV hp hpp hS hE hset hri hf hk0 hi hok hn hd hra hb1 KAN
    by_cases h0 : XE = 0
    case neg =>
      rw [if_neg h0]
      have h0b : (XE != 0) = true := by simpa using h0
      clear h0 htf
      go_enter Tryz.func14, Tryz.ntmps14
      go_wp2_with (first
        | (go_at_call 38; refine (KP _ B0).mono ?_; rintro e W1 ⟨rfl, b1⟩; rw [HPI.out])
        | fail)
      refine wp_region_any (by kernel_rfl) ?_
      change wpAny _ _ _ _ _ _ _ (World.drew _)
      refine wpAny_narrow (fun W' => W'.rangeAt b (off + i * 16) (ST.cells ⟨⟨nm, ep, mr, al, kd, sc⟩, hv, iv, ⟨h1, v1, o1, g1⟩, ⟨h2, v2, o2, g2⟩⟩)) _ _ _ _ ?_
      refine anyH_take 0 24 (.slice (some ⟨b, off, none⟩) n cap) rfl rfl (by kernel_rfl) (by kernel_rfl) (by kernel_rfl) (fun _ _ _ h => h) (Or.inl ⟨by rfl, by intro w hSw; go_simp⟩) (KR _ b1.drew) ?_
      try simp only [Act.put, List.setIfInBounds_toArray, List.set_cons_zero, List.set_cons_succ]
      refine anyH_take 1 25 (.int .i64 (i : Int)) rfl rfl (by kernel_rfl) (by kernel_rfl) (by kernel_rfl) (fun _ _ _ h => h) (Or.inl ⟨by rfl, by intro w hSw; go_simp⟩) (KR _ b1.drew) ?_
      try simp only [Act.put, List.setIfInBounds_toArray, List.set_cons_zero, List.set_cons_succ]
      refine anyH_take 2 26 (.pointer (some ⟨b, off + i * 16, none⟩)) rfl rfl (by kernel_rfl) (by kernel_rfl) (by kernel_rfl) (fun _ _ _ h => h) (Or.inl ⟨by rfl, by intro w hSw; go_simp⟩) (KR _ b1.drew) ?_
      try simp only [Act.put, List.setIfInBounds_toArray, List.set_cons_zero, List.set_cons_succ]
      refine anyH_take 3 27 (.pointer (some ⟨b, off + i * 16, none⟩)) rfl rfl (by kernel_rfl) (by kernel_rfl) (by kernel_rfl) (fun _ _ _ h => h) (Or.inl ⟨by rfl, by intro w hSw; go_simp⟩) (KR _ b1.drew) ?_
      try simp only [Act.put, List.setIfInBounds_toArray, List.set_cons_zero, List.set_cons_succ]
      refine anyH_take 4 28 (.pointer (some ⟨b, off + i * 16 + 4, none⟩)) rfl rfl (by kernel_rfl) (by kernel_rfl) (by kernel_rfl) (fun _ _ _ h => h) (Or.inl ⟨by rfl, by intro w hSw; go_simp⟩) (KR _ b1.drew) ?_
      try simp only [Act.put, List.setIfInBounds_toArray, List.set_cons_zero, List.set_cons_succ]
      refine anyH_take 5 29 (.int .i64 kd) rfl rfl (by kernel_rfl) (by kernel_rfl) (by kernel_rfl) (fun _ _ _ h => h) (Or.inl ⟨by rfl, fun X hSw => by have hc := hSw 4 _ rfl; go_simp⟩) (KR _ b1.drew) ?_
      try simp only [Act.put, List.setIfInBounds_toArray, List.set_cons_zero, List.set_cons_succ]
      refine anyH_take 6 30 (.int .i64 x) rfl rfl (by kernel_rfl) (by kernel_rfl) (by kernel_rfl) (fun _ _ _ h => h) (Or.inl ⟨by rfl, by intro w hSw; go_simp⟩) (KR _ b1.drew) ?_
      try simp only [Act.put, List.setIfInBounds_toArray, List.set_cons_zero, List.set_cons_succ]
      refine anyH_take 7 31 (.slice (some ⟨b, off, none⟩) n cap) rfl rfl (by kernel_rfl) (by kernel_rfl) (by kernel_rfl) (fun _ _ _ h => h) (Or.inl ⟨by rfl, by intro w hSw; go_simp⟩) (KR _ b1.drew) ?_
      try simp only [Act.put, List.setIfInBounds_toArray, List.set_cons_zero, List.set_cons_succ]
      refine anyH_take 8 32 (.int .i64 (i : Int)) rfl rfl (by kernel_rfl) (by kernel_rfl) (by kernel_rfl) (fun _ _ _ h => h) (Or.inl ⟨by rfl, by intro w hSw; go_simp⟩) (KR _ b1.drew) ?_
      try simp only [Act.put, List.setIfInBounds_toArray, List.set_cons_zero, List.set_cons_succ]
      refine anyH_take 9 33 (.pointer (some ⟨b, off + i * 16, none⟩)) rfl rfl (by kernel_rfl) (by kernel_rfl) (by kernel_rfl) (fun _ _ _ h => h) (Or.inl ⟨by rfl, by intro w hSw; go_simp⟩) (KR _ b1.drew) ?_
      try simp only [Act.put, List.setIfInBounds_toArray, List.set_cons_zero, List.set_cons_succ]
      refine anyH_take 10 34 (.pointer (some ⟨b, off + i * 16, none⟩)) rfl rfl (by kernel_rfl) (by kernel_rfl) (by kernel_rfl) (fun _ _ _ h => h) (Or.inl ⟨by rfl, by intro w hSw; go_simp⟩) (KR _ b1.drew) ?_
      try simp only [Act.put, List.setIfInBounds_toArray, List.set_cons_zero, List.set_cons_succ]
      refine anyH_take 11 35 (.pointer (some ⟨b, off + i * 16 + 5, none⟩)) rfl rfl (by kernel_rfl) (by kernel_rfl) (by kernel_rfl) (fun _ _ _ h => h) (Or.inl ⟨by rfl, by intro w hSw; go_simp⟩) (KR _ b1.drew) ?_
      try simp only [Act.put, List.setIfInBounds_toArray, List.set_cons_zero, List.set_cons_succ]
      refine anyH_take 12 36 (.int .i64 sc) rfl rfl (by kernel_rfl) (by kernel_rfl) (by kernel_rfl) (fun _ _ _ h => h) (Or.inl ⟨by rfl, fun X hSw => by have hc := hSw 5 _ rfl; go_simp⟩) (KR _ b1.drew) ?_
      try simp only [Act.put, List.setIfInBounds_toArray, List.set_cons_zero, List.set_cons_succ]
      refine wpAnyH_ready (rs := [13]) (by kernel_rfl) (by simp) ?_
      refine AllReadyH.cons rfl (fun K hK => ?_) AllReadyH.nil
      go_simp
      go_wp2_with (go_at_call 39; refine (KT _).mono ?_; clear KT; rintro e W2 ⟨rfl, rfl⟩)
      refine hK.out _ _ (KR _ b1.drew) (fun hS => ?_)
      clear hK
      refine anyH_take 14 23 ((.tuple #[.int .i64 YV, .int .i64 XE])) rfl rfl (by kernel_rfl) (by kernel_rfl) (by kernel_rfl) (fun _ _ _ h => h) (Or.inl ⟨by rfl, by intro w hSw; go_simp⟩) (KR _ b1.drew) ?_
      try simp only [Act.put, List.setIfInBounds_toArray, List.set_cons_zero, List.set_cons_succ]
      refine anyH_take 15 38 (.int .i64 YV) rfl rfl (by kernel_rfl) (by kernel_rfl) (by kernel_rfl) (fun _ _ _ h => h) (Or.inl ⟨by rfl, by intro w hSw; go_simp⟩) (KR _ b1.drew) ?_
      try simp only [Act.put, List.setIfInBounds_toArray, List.set_cons_zero, List.set_cons_succ]
      refine anyH_take 16 39 (.int .i64 XE) rfl rfl (by kernel_rfl) (by kernel_rfl) (by kernel_rfl) (fun _ _ _ h => h) (Or.inl ⟨by rfl, by intro w hSw; go_simp⟩) (KR _ b1.drew) ?_
      try simp only [Act.put, List.setIfInBounds_toArray, List.set_cons_zero, List.set_cons_succ]
      refine anyH_take 17 11 (.int .i64 YV) rfl rfl (by kernel_rfl) (by kernel_rfl) (by kernel_rfl) (fun _ _ _ h => h) (Or.inl ⟨by rfl, by intro w hSw; go_simp⟩) (KR _ b1.drew) ?_
      try simp only [Act.put, List.setIfInBounds_toArray, List.set_cons_zero, List.set_cons_succ]
      refine anyH_take 18 12 (.int .i64 XE) rfl rfl (by kernel_rfl) (by kernel_rfl) (by kernel_rfl) (fun _ _ _ h => h) (Or.inl ⟨by rfl, by intro w hSw; go_simp⟩) (KR _ b1.drew) ?_
      try simp only [Act.put, List.setIfInBounds_toArray, List.set_cons_zero, List.set_cons_succ]
      refine wpAnyH_done (by kernel_rfl) ?_ _
      go_wp2_with (first
      | (go_at_call 7; refine (KC _ b1.drew).mono ?_; rintro e W2 ⟨a1, c1, rfl, L1, fo1, b2⟩; have B2 := b1.drew.trans (b2.mono b1.drew.size)))
      exact bodyPost_ret (results_tmp2 rfl _ _ _) rfl (fin_V HLN.out L1 (fun g off e => Nat.le_trans b1.drew.size (fo1 g off e)) B2)
    case pos =>
    rw [if_pos h0]
    have hyv := htf h0
    subst h0
    clear htf
    by_cases h4 : kd = 4
    case neg =>
      have h4b : (kd == 4) = false := by simpa using h4
      have HT : setT id YV ⟨⟨nm, ep, mr, al, kd, sc⟩, hv, iv, ⟨h1, v1, o1, g1⟩, ⟨h2, v2, o2, g2⟩⟩ = ⟨⟨nm, ep, mr, al, kd, sc⟩, true, YV, ⟨h1, v1, o1, g1⟩, ⟨h2, v2, o2, g2⟩⟩ := if_neg h4
      rw [HT]
      clear h4 HT hff hyv
      go_enter Tryz.func14, Tryz.ntmps14
      go_wp2_with (first
        | (go_at_call 38; refine (KP _ B0).mono ?_; rintro e W1 ⟨rfl, b1⟩; rw [HPI.out])
        | fail)
      refine wp_region_any (by kernel_rfl) ?_
      change wpAny _ _ _ _ _ _ _ (World.drew _)
      refine wpAny_narrow (fun W' => W'.rangeAt b (off + i * 16) (ST.cells ⟨⟨nm, ep, mr, al, kd, sc⟩, hv, iv, ⟨h1, v1, o1, g1⟩, ⟨h2, v2, o2, g2⟩⟩)) _ _ _ _ ?_
      refine anyH_take 0 24 (.slice (some ⟨b, off, none⟩) n cap) rfl rfl (by kernel_rfl) (by kernel_rfl) (by kernel_rfl) (fun _ _ _ h => h) (Or.inl ⟨by rfl, by intro w hSw; go_simp⟩) (KR _ b1.drew) ?_
      try simp only [Act.put, List.setIfInBounds_toArray, List.set_cons_zero, List.set_cons_succ]
      refine anyH_take 1 25 (.int .i64 (i : Int)) rfl rfl (by kernel_rfl) (by kernel_rfl) (by kernel_rfl) (fun _ _ _ h => h) (Or.inl ⟨by rfl, by intro w hSw; go_simp⟩) (KR _ b1.drew) ?_
      try simp only [Act.put, List.setIfInBounds_toArray, List.set_cons_zero, List.set_cons_succ]
      refine anyH_take 2 26 (.pointer (some ⟨b, off + i * 16, none⟩)) rfl rfl (by kernel_rfl) (by kernel_rfl) (by kernel_rfl) (fun _ _ _ h => h) (Or.inl ⟨by rfl, by intro w hSw; go_simp⟩) (KR _ b1.drew) ?_
      try simp only [Act.put, List.setIfInBounds_toArray, List.set_cons_zero, List.set_cons_succ]
      refine anyH_take 3 27 (.pointer (some ⟨b, off + i * 16, none⟩)) rfl rfl (by kernel_rfl) (by kernel_rfl) (by kernel_rfl) (fun _ _ _ h => h) (Or.inl ⟨by rfl, by intro w hSw; go_simp⟩) (KR _ b1.drew) ?_
      try simp only [Act.put, List.setIfInBounds_toArray, List.set_cons_zero, List.set_cons_succ]
      refine anyH_take 4 28 (.pointer (some ⟨b, off + i * 16 + 4, none⟩)) rfl rfl (by kernel_rfl) (by kernel_rfl) (by kernel_rfl) (fun _ _ _ h => h) (Or.inl ⟨by rfl, by intro w hSw; go_simp⟩) (KR _ b1.drew) ?_
      try simp only [Act.put, List.setIfInBounds_toArray, List.set_cons_zero, List.set_cons_succ]
      refine anyH_take 5 29 (.int .i64 kd) rfl rfl (by kernel_rfl) (by kernel_rfl) (by kernel_rfl) (fun _ _ _ h => h) (Or.inl ⟨by rfl, fun X hSw => by have hc := hSw 4 _ rfl; go_simp⟩) (KR _ b1.drew) ?_
      try simp only [Act.put, List.setIfInBounds_toArray, List.set_cons_zero, List.set_cons_succ]
      refine anyH_take 6 30 (.int .i64 x) rfl rfl (by kernel_rfl) (by kernel_rfl) (by kernel_rfl) (fun _ _ _ h => h) (Or.inl ⟨by rfl, by intro w hSw; go_simp⟩) (KR _ b1.drew) ?_
      try simp only [Act.put, List.setIfInBounds_toArray, List.set_cons_zero, List.set_cons_succ]
      refine anyH_take 7 31 (.slice (some ⟨b, off, none⟩) n cap) rfl rfl (by kernel_rfl) (by kernel_rfl) (by kernel_rfl) (fun _ _ _ h => h) (Or.inl ⟨by rfl, by intro w hSw; go_simp⟩) (KR _ b1.drew) ?_
      try simp only [Act.put, List.setIfInBounds_toArray, List.set_cons_zero, List.set_cons_succ]
      refine anyH_take 8 32 (.int .i64 (i : Int)) rfl rfl (by kernel_rfl) (by kernel_rfl) (by kernel_rfl) (fun _ _ _ h => h) (Or.inl ⟨by rfl, by intro w hSw; go_simp⟩) (KR _ b1.drew) ?_
      try simp only [Act.put, List.setIfInBounds_toArray, List.set_cons_zero, List.set_cons_succ]
      refine anyH_take 9 33 (.pointer (some ⟨b, off + i * 16, none⟩)) rfl rfl (by kernel_rfl) (by kernel_rfl) (by kernel_rfl) (fun _ _ _ h => h) (Or.inl ⟨by rfl, by intro w hSw; go_simp⟩) (KR _ b1.drew) ?_
      try simp only [Act.put, List.setIfInBounds_toArray, List.set_cons_zero, List.set_cons_succ]
      refine anyH_take 10 34 (.pointer (some ⟨b, off + i * 16, none⟩)) rfl rfl (by kernel_rfl) (by kernel_rfl) (by kernel_rfl) (fun _ _ _ h => h) (Or.inl ⟨by rfl, by intro w hSw; go_simp⟩) (KR _ b1.drew) ?_
      try simp only [Act.put, List.setIfInBounds_toArray, List.set_cons_zero, List.set_cons_succ]
      refine anyH_take 11 35 (.pointer (some ⟨b, off + i * 16 + 5, none⟩)) rfl rfl (by kernel_rfl) (by kernel_rfl) (by kernel_rfl) (fun _ _ _ h => h) (Or.inl ⟨by rfl, by intro w hSw; go_simp⟩) (KR _ b1.drew) ?_
      try simp only [Act.put, List.setIfInBounds_toArray, List.set_cons_zero, List.set_cons_succ]
      refine anyH_take 12 36 (.int .i64 sc) rfl rfl (by kernel_rfl) (by kernel_rfl) (by kernel_rfl) (fun _ _ _ h => h) (Or.inl ⟨by rfl, fun X hSw => by have hc := hSw 5 _ rfl; go_simp⟩) (KR _ b1.drew) ?_
      try simp only [Act.put, List.setIfInBounds_toArray, List.set_cons_zero, List.set_cons_succ]
      refine wpAnyH_ready (rs := [13]) (by kernel_rfl) (by simp) ?_
      refine AllReadyH.cons rfl (fun K hK => ?_) AllReadyH.nil
      go_simp
      go_wp2_with (go_at_call 39; refine (KT _).mono ?_; clear KT; rintro e W2 ⟨rfl, rfl⟩)
      refine hK.out _ _ (KR _ b1.drew) (fun hS => ?_)
      clear hK
      refine anyH_take 14 23 ((.tuple #[.int .i64 YV, .int .i64 0])) rfl rfl (by kernel_rfl) (by kernel_rfl) (by kernel_rfl) (fun _ _ _ h => h) (Or.inl ⟨by rfl, by intro w hSw; go_simp⟩) (KR _ b1.drew) ?_
      try simp only [Act.put, List.setIfInBounds_toArray, List.set_cons_zero, List.set_cons_succ]
      refine anyH_take 15 38 (.int .i64 YV) rfl rfl (by kernel_rfl) (by kernel_rfl) (by kernel_rfl) (fun _ _ _ h => h) (Or.inl ⟨by rfl, by intro w hSw; go_simp⟩) (KR _ b1.drew) ?_
      try simp only [Act.put, List.setIfInBounds_toArray, List.set_cons_zero, List.set_cons_succ]
      refine anyH_take 16 39 (.int .i64 0) rfl rfl (by kernel_rfl) (by kernel_rfl) (by kernel_rfl) (fun _ _ _ h => h) (Or.inl ⟨by rfl, by intro w hSw; go_simp⟩) (KR _ b1.drew) ?_
      try simp only [Act.put, List.setIfInBounds_toArray, List.set_cons_zero, List.set_cons_succ]
      refine anyH_take 17 11 (.int .i64 YV) rfl rfl (by kernel_rfl) (by kernel_rfl) (by kernel_rfl) (fun _ _ _ h => h) (Or.inl ⟨by rfl, by intro w hSw; go_simp⟩) (KR _ b1.drew) ?_
      try simp only [Act.put, List.setIfInBounds_toArray, List.set_cons_zero, List.set_cons_succ]
      refine anyH_take 18 12 (.int .i64 0) rfl rfl (by kernel_rfl) (by kernel_rfl) (by kernel_rfl) (fun _ _ _ h => h) (Or.inl ⟨by rfl, by intro w hSw; go_simp⟩) (KR _ b1.drew) ?_
      try simp only [Act.put, List.setIfInBounds_toArray, List.set_cons_zero, List.set_cons_succ]
      refine wpAnyH_done (by kernel_rfl) ?_ _
      go_wp2_with (first
      | (go_at_call 7; refine (KC _ b1.drew).mono ?_; rintro e W2 ⟨a1, c1, rfl, L1, fo1, b2⟩; have B2 := b1.drew.trans (b2.mono b1.drew.size); obtain ⟨g, off', rfl⟩ := lst_addr L1 HI.out; have O := OwnI.mk0 (i := i) B2 (Nat.le_trans b1.drew.size (fo1 g off' rfl)) L1 HI.out; rw [HX.out] at O)
      | ((with_reducible show wpList _ _ _ (Oper.mk _ (Op.store 4 _ _) _ _ _ _ :: _) _ _); refine wpList_own4 O rfl _ _ rfl true rfl rfl ?_; clear O; intro W4 O)
      | ((with_reducible show wpList _ _ _ (Oper.mk _ (Op.store 2 _ _) _ _ _ _ :: _) _ _); refine wpList_own2 O rfl _ _ rfl YV rfl rfl ?_; clear O; intro W5 O)
      | ((with_reducible show wpList _ _ _ (Oper.mk _ (Op.load 3 (Operand.tmp 60)) _ _ _ _ :: _) _ _); refine wpList_cell3w (by rfl) _ rfl _ rfl (O.range 4 _ rfl) ?_))
      exact bodyPost_ret (results_tmp2 rfl _ _ _) rfl (fin_V (by rw [List.length_set]; exact HLN.out) O.lst (fun g2 off2 e => by cases e; exact O.ge) O.below)
    case pos =>
      subst h4
      have KS := rset_wrap (id := id) (y := YV) (show E.nodeB id = true from hid) hyv hff.1 hff.2.1
      obtain ⟨⟨⟨h5, v5, o5, g5⟩, ⟨h6, v6, o6, g6⟩⟩, h56⟩ : ∃ p, E.setX id YV ⟨h1, v1, o1, g1⟩ ⟨h2, v2, o2, g2⟩ = p := ⟨_, rfl⟩
      have HT : setT id YV ⟨⟨nm, ep, mr, al, 4, sc⟩, hv, iv, ⟨h1, v1, o1, g1⟩, ⟨h2, v2, o2, g2⟩⟩ = ⟨⟨nm, ep, mr, al, 4, sc⟩, true, YV, ⟨h5, v5, o5, g5⟩, ⟨h6, v6, o6, g6⟩⟩ := by
        unfold setT
        rw [if_pos rfl]
        dsimp only
        rw [h56]
      rw [HT]
      rw [h56] at KS
      unfold E.two at KS
      dsimp only at KS
      clear HT h56 hff hyv
      go_enter Tryz.func14, Tryz.ntmps14
      go_wp2_with (first
        | (go_at_call 38; refine (KP _ B0).mono ?_; rintro e W1 ⟨rfl, b1⟩; rw [HPI.out])
        | fail)
      refine wp_region_any (by kernel_rfl) ?_
      change wpAny _ _ _ _ _ _ _ (World.drew _)
      refine wpAny_narrow (fun W' => W'.rangeAt b (off + i * 16) (ST.cells ⟨⟨nm, ep, mr, al, 4, sc⟩, hv, iv, ⟨h1, v1, o1, g1⟩, ⟨h2, v2, o2, g2⟩⟩)) _ _ _ _ ?_
      refine anyH_take 0 24 (.slice (some ⟨b, off, none⟩) n cap) rfl rfl (by kernel_rfl) (by kernel_rfl) (by kernel_rfl) (fun _ _ _ h => h) (Or.inl ⟨by rfl, by intro w hSw; go_simp⟩) (KR _ b1.drew) ?_
      try simp only [Act.put, List.setIfInBounds_toArray, List.set_cons_zero, List.set_cons_succ]
      refine anyH_take 1 25 (.int .i64 (i : Int)) rfl rfl (by kernel_rfl) (by kernel_rfl) (by kernel_rfl) (fun _ _ _ h => h) (Or.inl ⟨by rfl, by intro w hSw; go_simp⟩) (KR _ b1.drew) ?_
      try simp only [Act.put, List.setIfInBounds_toArray, List.set_cons_zero, List.set_cons_succ]
      refine anyH_take 2 26 (.pointer (some ⟨b, off + i * 16, none⟩)) rfl rfl (by kernel_rfl) (by kernel_rfl) (by kernel_rfl) (fun _ _ _ h => h) (Or.inl ⟨by rfl, by intro w hSw; go_simp⟩) (KR _ b1.drew) ?_
      try simp only [Act.put, List.setIfInBounds_toArray, List.set_cons_zero, List.set_cons_succ]
      refine anyH_take 3 27 (.pointer (some ⟨b, off + i * 16, none⟩)) rfl rfl (by kernel_rfl) (by kernel_rfl) (by kernel_rfl) (fun _ _ _ h => h) (Or.inl ⟨by rfl, by intro w hSw; go_simp⟩) (KR _ b1.drew) ?_
      try simp only [Act.put, List.setIfInBounds_toArray, List.set_cons_zero, List.set_cons_succ]
      refine anyH_take 4 28 (.pointer (some ⟨b, off + i * 16 + 4, none⟩)) rfl rfl (by kernel_rfl) (by kernel_rfl) (by kernel_rfl) (fun _ _ _ h => h) (Or.inl ⟨by rfl, by intro w hSw; go_simp⟩) (KR _ b1.drew) ?_
      try simp only [Act.put, List.setIfInBounds_toArray, List.set_cons_zero, List.set_cons_succ]
      refine anyH_take 5 29 (.int .i64 4) rfl rfl (by kernel_rfl) (by kernel_rfl) (by kernel_rfl) (fun _ _ _ h => h) (Or.inl ⟨by rfl, fun X hSw => by have hc := hSw 4 _ rfl; go_simp⟩) (KR _ b1.drew) ?_
      try simp only [Act.put, List.setIfInBounds_toArray, List.set_cons_zero, List.set_cons_succ]
      refine anyH_take 6 30 (.int .i64 x) rfl rfl (by kernel_rfl) (by kernel_rfl) (by kernel_rfl) (fun _ _ _ h => h) (Or.inl ⟨by rfl, by intro w hSw; go_simp⟩) (KR _ b1.drew) ?_
      try simp only [Act.put, List.setIfInBounds_toArray, List.set_cons_zero, List.set_cons_succ]
      refine anyH_take 7 31 (.slice (some ⟨b, off, none⟩) n cap) rfl rfl (by kernel_rfl) (by kernel_rfl) (by kernel_rfl) (fun _ _ _ h => h) (Or.inl ⟨by rfl, by intro w hSw; go_simp⟩) (KR _ b1.drew) ?_
      try simp only [Act.put, List.setIfInBounds_toArray, List.set_cons_zero, List.set_cons_succ]
      refine anyH_take 8 32 (.int .i64 (i : Int)) rfl rfl (by kernel_rfl) (by kernel_rfl) (by kernel_rfl) (fun _ _ _ h => h) (Or.inl ⟨by rfl, by intro w hSw; go_simp⟩) (KR _ b1.drew) ?_
      try simp only [Act.put, List.setIfInBounds_toArray, List.set_cons_zero, List.set_cons_succ]
      refine anyH_take 9 33 (.pointer (some ⟨b, off + i * 16, none⟩)) rfl rfl (by kernel_rfl) (by kernel_rfl) (by kernel_rfl) (fun _ _ _ h => h) (Or.inl ⟨by rfl, by intro w hSw; go_simp⟩) (KR _ b1.drew) ?_
      try simp only [Act.put, List.setIfInBounds_toArray, List.set_cons_zero, List.set_cons_succ]
      refine anyH_take 10 34 (.pointer (some ⟨b, off + i * 16, none⟩)) rfl rfl (by kernel_rfl) (by kernel_rfl) (by kernel_rfl) (fun _ _ _ h => h) (Or.inl ⟨by rfl, by intro w hSw; go_simp⟩) (KR _ b1.drew) ?_
      try simp only [Act.put, List.setIfInBounds_toArray, List.set_cons_zero, List.set_cons_succ]
      refine anyH_take 11 35 (.pointer (some ⟨b, off + i * 16 + 5, none⟩)) rfl rfl (by kernel_rfl) (by kernel_rfl) (by kernel_rfl) (fun _ _ _ h => h) (Or.inl ⟨by rfl, by intro w hSw; go_simp⟩) (KR _ b1.drew) ?_
      try simp only [Act.put, List.setIfInBounds_toArray, List.set_cons_zero, List.set_cons_succ]
      refine anyH_take 12 36 (.int .i64 sc) rfl rfl (by kernel_rfl) (by kernel_rfl) (by kernel_rfl) (fun _ _ _ h => h) (Or.inl ⟨by rfl, fun X hSw => by have hc := hSw 5 _ rfl; go_simp⟩) (KR _ b1.drew) ?_
      try simp only [Act.put, List.setIfInBounds_toArray, List.set_cons_zero, List.set_cons_succ]
      refine wpAnyH_ready (rs := [13]) (by kernel_rfl) (by simp) ?_
      refine AllReadyH.cons rfl (fun K hK => ?_) AllReadyH.nil
      go_simp
      go_wp2_with (go_at_call 39; refine (KT _).mono ?_; clear KT; rintro e W2 ⟨rfl, rfl⟩)
      refine hK.out _ _ (KR _ b1.drew) (fun hS => ?_)
      clear hK
      refine anyH_take 14 23 ((.tuple #[.int .i64 YV, .int .i64 0])) rfl rfl (by kernel_rfl) (by kernel_rfl) (by kernel_rfl) (fun _ _ _ h => h) (Or.inl ⟨by rfl, by intro w hSw; go_simp⟩) (KR _ b1.drew) ?_
      try simp only [Act.put, List.setIfInBounds_toArray, List.set_cons_zero, List.set_cons_succ]
      refine anyH_take 15 38 (.int .i64 YV) rfl rfl (by kernel_rfl) (by kernel_rfl) (by kernel_rfl) (fun _ _ _ h => h) (Or.inl ⟨by rfl, by intro w hSw; go_simp⟩) (KR _ b1.drew) ?_
      try simp only [Act.put, List.setIfInBounds_toArray, List.set_cons_zero, List.set_cons_succ]
      refine anyH_take 16 39 (.int .i64 0) rfl rfl (by kernel_rfl) (by kernel_rfl) (by kernel_rfl) (fun _ _ _ h => h) (Or.inl ⟨by rfl, by intro w hSw; go_simp⟩) (KR _ b1.drew) ?_
      try simp only [Act.put, List.setIfInBounds_toArray, List.set_cons_zero, List.set_cons_succ]
      refine anyH_take 17 11 (.int .i64 YV) rfl rfl (by kernel_rfl) (by kernel_rfl) (by kernel_rfl) (fun _ _ _ h => h) (Or.inl ⟨by rfl, by intro w hSw; go_simp⟩) (KR _ b1.drew) ?_
      try simp only [Act.put, List.setIfInBounds_toArray, List.set_cons_zero, List.set_cons_succ]
      refine anyH_take 18 12 (.int .i64 0) rfl rfl (by kernel_rfl) (by kernel_rfl) (by kernel_rfl) (fun _ _ _ h => h) (Or.inl ⟨by rfl, by intro w hSw; go_simp⟩) (KR _ b1.drew) ?_
      try simp only [Act.put, List.setIfInBounds_toArray, List.set_cons_zero, List.set_cons_succ]
      refine wpAnyH_done (by kernel_rfl) ?_ _
      go_wp2_with (first
        | (go_at_call 7; refine (KC _ b1.drew).mono ?_; rintro e W2 ⟨a1, c1, rfl, L1, fo1, b2⟩; have B2 := b1.drew.trans (b2.mono b1.drew.size); obtain ⟨g, off', rfl⟩ := lst_addr L1 HI.out; have O := OwnI.mk0 (i := i) B2 (Nat.le_trans b1.drew.size (fo1 g off' rfl)) L1 HI.out; rw [HX.out] at O)
        | ((with_reducible show wpList _ _ _ (Oper.mk _ (Op.store 4 _ _) _ _ _ _ :: _) _ _); refine wpList_own4 O rfl _ _ rfl true rfl rfl ?_; clear O; intro W4 O)
        | ((with_reducible show wpList _ _ _ (Oper.mk _ (Op.store 2 _ _) _ _ _ _ :: _) _ _); refine wpList_own2 O rfl _ _ rfl YV rfl rfl ?_; clear O; intro W5 O)
        | ((with_reducible show wpList _ _ _ (Oper.mk _ (Op.load 3 (Operand.tmp 60)) _ _ _ _ :: _) _ _); refine wpList_cell3w (by rfl) _ rfl _ rfl (O.range 4 _ rfl) ?_)
        | fail)
      obtain ⟨W0, hW0⟩ : ∃ W0 : World, W0 = W5 := ⟨_, rfl⟩
      subst hW0
      have KO : ∀ X, Below W0.heap.size W0 X → X.rangeAt g (off' + i * 16) (ST.cells ⟨⟨nm, ep, mr, al, 4, sc⟩, true, YV, ⟨h1, v1, o1, g1⟩, ⟨h2, v2, o2, g2⟩⟩) := fun X h => range_later O.range O.lst.lt h
      have M := Mem.nil W0
      refine wp_region_any (by kernel_rfl) ?_
      change wpAny _ _ _ _ _ _ _ (World.drew _)
      refine wpAny_narrow (fun W' => Below W0.heap.size W0 W') _ _ _ _ ?_
      replace M := M.drew
      revert M
      generalize World.drew _ = WD
      intro M
      refine anyH_take 0 64 (.int .i64 id) rfl rfl (by kernel_rfl) (by kernel_rfl) (by kernel_rfl) (fun _ _ _ h => h) (Or.inl ⟨by rfl, by intro w hSw; go_simp⟩) (M.below) ?_
      try simp only [Act.put, List.setIfInBounds_toArray, List.set_cons_zero, List.set_cons_succ]
      refine anyH_take 1 65 (.int .i64 YV) rfl rfl (by kernel_rfl) (by kernel_rfl) (by kernel_rfl) (fun _ _ _ h => h) (Or.inl ⟨by rfl, by intro w hSw; go_simp⟩) (M.below) ?_
      try simp only [Act.put, List.setIfInBounds_toArray, List.set_cons_zero, List.set_cons_succ]
      refine anyH_take 2 66 (.slice (some ⟨g, off', none⟩) n c1) rfl rfl (by kernel_rfl) (by kernel_rfl) (by kernel_rfl) (fun _ _ _ h => h) (Or.inl ⟨by rfl, by intro w hSw; go_simp⟩) (M.below) ?_
      try simp only [Act.put, List.setIfInBounds_toArray, List.set_cons_zero, List.set_cons_succ]
      refine anyH_take 3 67 (.int .i64 (i : Int)) rfl rfl (by kernel_rfl) (by kernel_rfl) (by kernel_rfl) (fun _ _ _ h => h) (Or.inl ⟨by rfl, by intro w hSw; go_simp⟩) (M.below) ?_
      try simp only [Act.put, List.setIfInBounds_toArray, List.set_cons_zero, List.set_cons_succ]
      refine anyH_take 4 68 (.pointer (some ⟨g, off' + i * 16, none⟩)) rfl rfl (by kernel_rfl) (by kernel_rfl) (by kernel_rfl) (fun _ _ _ h => h) (Or.inl ⟨by rfl, by intro w hSw; go_simp⟩) (M.below) ?_
      try simp only [Act.put, List.setIfInBounds_toArray, List.set_cons_zero, List.set_cons_succ]
      refine anyH_take 5 69 (.pointer (some ⟨g, off' + i * 16 + 8, none⟩)) rfl rfl (by kernel_rfl) (by kernel_rfl) (by kernel_rfl) (fun _ _ _ h => h) (Or.inl ⟨by rfl, by intro w hSw; go_simp⟩) (M.below) ?_
      try simp only [Act.put, List.setIfInBounds_toArray, List.set_cons_zero, List.set_cons_succ]
      refine anyH_take 6 70 (exv h1 v1 o1 g1) rfl rfl (by kernel_rfl) (by kernel_rfl) (by kernel_rfl) (fun _ _ _ h => h) (Or.inl ⟨by rfl, fun X hSw => exec_loadX rfl rfl (rng_mn (KO _ hSw))⟩) (M.below) ?_
      try simp only [Act.put, List.setIfInBounds_toArray, List.set_cons_zero, List.set_cons_succ]
      refine anyH_take 7 71 (.slice (some ⟨g, off', none⟩) n c1) rfl rfl (by kernel_rfl) (by kernel_rfl) (by kernel_rfl) (fun _ _ _ h => h) (Or.inl ⟨by rfl, by intro w hSw; go_simp⟩) (M.below) ?_
      try simp only [Act.put, List.setIfInBounds_toArray, List.set_cons_zero, List.set_cons_succ]
      refine anyH_take 8 72 (.int .i64 (i : Int)) rfl rfl (by kernel_rfl) (by kernel_rfl) (by kernel_rfl) (fun _ _ _ h => h) (Or.inl ⟨by rfl, by intro w hSw; go_simp⟩) (M.below) ?_
      try simp only [Act.put, List.setIfInBounds_toArray, List.set_cons_zero, List.set_cons_succ]
      refine anyH_take 9 73 (.pointer (some ⟨g, off' + i * 16, none⟩)) rfl rfl (by kernel_rfl) (by kernel_rfl) (by kernel_rfl) (fun _ _ _ h => h) (Or.inl ⟨by rfl, by intro w hSw; go_simp⟩) (M.below) ?_
      try simp only [Act.put, List.setIfInBounds_toArray, List.set_cons_zero, List.set_cons_succ]
      refine anyH_take 10 74 (.pointer (some ⟨g, off' + i * 16 + 12, none⟩)) rfl rfl (by kernel_rfl) (by kernel_rfl) (by kernel_rfl) (fun _ _ _ h => h) (Or.inl ⟨by rfl, by intro w hSw; go_simp⟩) (M.below) ?_
      try simp only [Act.put, List.setIfInBounds_toArray, List.set_cons_zero, List.set_cons_succ]
      refine anyH_take 11 75 (exv h2 v2 o2 g2) rfl rfl (by kernel_rfl) (by kernel_rfl) (by kernel_rfl) (fun _ _ _ h => h) (Or.inl ⟨by rfl, fun X hSw => exec_loadX rfl rfl (rng_mx (KO _ hSw))⟩) (M.below) ?_
      try simp only [Act.put, List.setIfInBounds_toArray, List.set_cons_zero, List.set_cons_succ]
      refine wpAnyH_ready (rs := [12, 16, 17]) (by kernel_rfl) (by simp) ?_
      refine (AllReadyH.cons rfl (fun K hK => ?_) (AllReadyH.cons rfl (fun K hK => ?_) (AllReadyH.cons rfl (fun K hK => ?_) AllReadyH.nil)))
      · go_simp
        go_wp2_with (go_at_call 40; refine (KS _).mono ?_; rintro e W6 ⟨rfl, b6⟩; replace M := M.later b6)
        refine hK.out _ _ M.below (fun hS => ?_)
        clear hK hS
        try simp only [Act.put, List.setIfInBounds_toArray, List.set_cons_zero, List.set_cons_succ]
        refine anyH_take 13 63 ((.tuple #[exv h5 v5 o5 g5, exv h6 v6 o6 g6])) rfl rfl (by kernel_rfl) (by kernel_rfl) (by kernel_rfl) (fun _ _ _ h => h) (Or.inl ⟨by rfl, by intro w hSw; go_simp⟩) (M.below) ?_
        try simp only [Act.put, List.setIfInBounds_toArray, List.set_cons_zero, List.set_cons_succ]
        refine anyH_take 14 77 (exv h5 v5 o5 g5) rfl rfl (by kernel_rfl) (by kernel_rfl) (by kernel_rfl) (fun _ _ _ h => h) (Or.inl ⟨by rfl, by intro w hSw; go_simp⟩) (M.below) ?_
        try simp only [Act.put, List.setIfInBounds_toArray, List.set_cons_zero, List.set_cons_succ]
        refine anyH_take 15 78 (exv h6 v6 o6 g6) rfl rfl (by kernel_rfl) (by kernel_rfl) (by kernel_rfl) (fun _ _ _ h => h) (Or.inl ⟨by rfl, by intro w hSw; go_simp⟩) (M.below) ?_
        try simp only [Act.put, List.setIfInBounds_toArray, List.set_cons_zero, List.set_cons_succ]
        refine wpAnyH_ready (rs := [16, 17]) (by kernel_rfl) (by simp) ?_
        refine (AllReadyH.cons rfl (fun K hK => ?_) (AllReadyH.cons rfl (fun K hK => ?_) AllReadyH.nil))
        · rw [if_pos (by rfl)]
          refine wp_alloc M rfl rtX ?_
          clear M
          intro k14 W7 M
          refine hK.out _ _ M.below (fun hS => ?_)
          clear hK hS
          try simp only [Act.put, List.setIfInBounds_toArray, List.set_cons_zero, List.set_cons_succ]
          refine wpAnyH_ready (rs := [17]) (by kernel_rfl) (by simp) ?_
          refine (AllReadyH.cons rfl (fun K hK => ?_) AllReadyH.nil)
          rw [if_pos (by rfl)]
          refine wp_alloc M rfl rtX ?_
          clear M
          intro k15 W7 M
          refine hK.out _ _ M.below (fun hS => ?_)
          clear hK hS
          try simp only [Act.put, List.setIfInBounds_toArray, List.set_cons_zero, List.set_cons_succ]
          refine wpAnyH_ready (rs := [18]) (by kernel_rfl) (by simp) ?_
          refine AllReadyH.cons rfl (fun K hK => ?_) AllReadyH.nil
          rw [if_pos (by rfl)]
          refine wp_put M _ _ rfl rtX 1 _ rfl rfl rfl rfl rfl (by simp [Value.oneCell']) ?_
          clear M
          intro W8 M
          simp only [List.set_cons_zero, List.set_cons_succ] at M
          refine hK.out _ _ M.below (fun hS => ?_)
          clear hK hS
          try simp only [Act.put, List.setIfInBounds_toArray, List.set_cons_zero, List.set_cons_succ]
          refine wpAnyH_ready (rs := [19]) (by kernel_rfl) (by simp) ?_
          refine AllReadyH.cons rfl (fun K hK => ?_) AllReadyH.nil
          rw [if_pos (by rfl)]
          refine wp_put M _ _ rfl rtX 0 _ rfl rfl rfl rfl rfl (by simp [Value.oneCell']) ?_
          clear M
          intro W8 M
          simp only [List.set_cons_zero, List.set_cons_succ] at M
          refine hK.out _ _ M.below (fun hS => ?_)
          clear hK hS
          try simp only [Act.put, List.setIfInBounds_toArray, List.set_cons_zero, List.set_cons_succ]
          refine wpAnyH_done (by kernel_rfl) ?_ _
          have y14 := M.get (.tail _ (.head _))
          have y15 := M.get (.head _)
          have n14 := M.ge (.tail _ (.head _))
          have n15 := M.ge (.head _)
          have O9 := O.later M.below
          go_wp2_with (first
      | ((with_reducible show wpList _ _ _ (Oper.mk _ (Op.load 38 (Operand.tmp 14)) _ _ _ _ :: _) _ _); refine wpList_loadw33 (by rfl) _ rfl rfl y14 ?_)
      | ((with_reducible show wpList _ _ _ (Oper.mk _ (Op.store 38 (Operand.tmp 83) _) _ _ _ _ :: _) _ _); refine wpList_ownmnF O9 rfl _ _ rfl h5 v5 o5 g5 rfl rfl ?_; clear O9; intro W9 O9 hfar; have z15 := (hfar k15 (by have := O.lst.lt; omega)).trans y15; clear hfar)
      | ((with_reducible show wpList _ _ _ (Oper.mk _ (Op.load 38 (Operand.tmp 15)) _ _ _ _ :: _) _ _); refine wpList_loadw33 (by rfl) _ rfl rfl z15 ?_)
      | ((with_reducible show wpList _ _ _ (Oper.mk _ (Op.store 38 (Operand.tmp 88) _) _ _ _ _ :: _) _ _); refine wpList_ownmxF O9 rfl _ _ rfl h6 v6 o6 g6 rfl rfl ?_; clear O9; intro W9 O9 hfar))
          exact bodyPost_ret (results_tmp2 rfl _ _ _) rfl (fin_V (by rw [List.length_set]; exact HLN.out) O9.lst (fun g2 off2 e => by cases e; exact O9.ge) O9.below)
        · rw [if_pos (by rfl)]
          refine wp_alloc M rfl rtX ?_
          clear M
          intro k15 W7 M
          refine hK.out _ _ M.below (fun hS => ?_)
          clear hK hS
          try simp only [Act.put, List.setIfInBounds_toArray, List.set_cons_zero, List.set_cons_succ]
          refine wpAnyH_ready (rs := [16]) (by kernel_rfl) (by simp) ?_
          refine (AllReadyH.cons rfl (fun K hK => ?_) AllReadyH.nil)
          rw [if_pos (by rfl)]
          refine wp_alloc M rfl rtX ?_
          clear M
          intro k14 W7 M
          refine hK.out _ _ M.below (fun hS => ?_)
          clear hK hS
          try simp only [Act.put, List.setIfInBounds_toArray, List.set_cons_zero, List.set_cons_succ]
          refine wpAnyH_ready (rs := [18]) (by kernel_rfl) (by simp) ?_
          refine AllReadyH.cons rfl (fun K hK => ?_) AllReadyH.nil
          rw [if_pos (by rfl)]
          refine wp_put M _ _ rfl rtX 0 _ rfl rfl rfl rfl rfl (by simp [Value.oneCell']) ?_
          clear M
          intro W8 M
          simp only [List.set_cons_zero, List.set_cons_succ] at M
          refine hK.out _ _ M.below (fun hS => ?_)
          clear hK hS
          try simp only [Act.put, List.setIfInBounds_toArray, List.set_cons_zero, List.set_cons_succ]
          refine wpAnyH_ready (rs := [19]) (by kernel_rfl) (by simp) ?_
          refine AllReadyH.cons rfl (fun K hK => ?_) AllReadyH.nil
          rw [if_pos (by rfl)]
          refine wp_put M _ _ rfl rtX 1 _ rfl rfl rfl rfl rfl (by simp [Value.oneCell']) ?_
          clear M
          intro W8 M
          simp only [List.set_cons_zero, List.set_cons_succ] at M
          refine hK.out _ _ M.below (fun hS => ?_)
          clear hK hS
          try simp only [Act.put, List.setIfInBounds_toArray, List.set_cons_zero, List.set_cons_succ]
          refine wpAnyH_done (by kernel_rfl) ?_ _
          have y14 := M.get (.head _)
          have y15 := M.get (.tail _ (.head _))
          have n14 := M.ge (.head _)
          have n15 := M.ge (.tail _ (.head _))
          have O9 := O.later M.below
          go_wp2_with (first
      | ((with_reducible show wpList _ _ _ (Oper.mk _ (Op.load 38 (Operand.tmp 14)) _ _ _ _ :: _) _ _); refine wpList_loadw33 (by rfl) _ rfl rfl y14 ?_)
      | ((with_reducible show wpList _ _ _ (Oper.mk _ (Op.store 38 (Operand.tmp 83) _) _ _ _ _ :: _) _ _); refine wpList_ownmnF O9 rfl _ _ rfl h5 v5 o5 g5 rfl rfl ?_; clear O9; intro W9 O9 hfar; have z15 := (hfar k15 (by have := O.lst.lt; omega)).trans y15; clear hfar)
      | ((with_reducible show wpList _ _ _ (Oper.mk _ (Op.load 38 (Operand.tmp 15)) _ _ _ _ :: _) _ _); refine wpList_loadw33 (by rfl) _ rfl rfl z15 ?_)
      | ((with_reducible show wpList _ _ _ (Oper.mk _ (Op.store 38 (Operand.tmp 88) _) _ _ _ _ :: _) _ _); refine wpList_ownmxF O9 rfl _ _ rfl h6 v6 o6 g6 rfl rfl ?_; clear O9; intro W9 O9 hfar))
          exact bodyPost_ret (results_tmp2 rfl _ _ _) rfl (fin_V (by rw [List.length_set]; exact HLN.out) O9.lst (fun g2 off2 e => by cases e; exact O9.ge) O9.below)
      · rw [if_pos (by rfl)]
        refine wp_alloc M rfl rtX ?_
        clear M
        intro k14 W7 M
        refine hK.out _ _ M.below (fun hS => ?_)
        clear hK hS
        try simp only [Act.put, List.setIfInBounds_toArray, List.set_cons_zero, List.set_cons_succ]
        refine wpAnyH_ready (rs := [12, 17]) (by kernel_rfl) (by simp) ?_
        refine (AllReadyH.cons rfl (fun K hK => ?_) (AllReadyH.cons rfl (fun K hK => ?_) AllReadyH.nil))
        · go_simp
          go_wp2_with (go_at_call 40; refine (KS _).mono ?_; rintro e W6 ⟨rfl, b6⟩; replace M := M.later b6)
          refine hK.out _ _ M.below (fun hS => ?_)
          clear hK hS
          try simp only [Act.put, List.setIfInBounds_toArray, List.set_cons_zero, List.set_cons_succ]
          refine anyH_take 13 63 ((.tuple #[exv h5 v5 o5 g5, exv h6 v6 o6 g6])) rfl rfl (by kernel_rfl) (by kernel_rfl) (by kernel_rfl) (fun _ _ _ h => h) (Or.inl ⟨by rfl, by intro w hSw; go_simp⟩) (M.below) ?_
          try simp only [Act.put, List.setIfInBounds_toArray, List.set_cons_zero, List.set_cons_succ]
          refine anyH_take 14 77 (exv h5 v5 o5 g5) rfl rfl (by kernel_rfl) (by kernel_rfl) (by kernel_rfl) (fun _ _ _ h => h) (Or.inl ⟨by rfl, by intro w hSw; go_simp⟩) (M.below) ?_
          try simp only [Act.put, List.setIfInBounds_toArray, List.set_cons_zero, List.set_cons_succ]
          refine anyH_take 15 78 (exv h6 v6 o6 g6) rfl rfl (by kernel_rfl) (by kernel_rfl) (by kernel_rfl) (fun _ _ _ h => h) (Or.inl ⟨by rfl, by intro w hSw; go_simp⟩) (M.below) ?_
          try simp only [Act.put, List.setIfInBounds_toArray, List.set_cons_zero, List.set_cons_succ]
          refine wpAnyH_ready (rs := [17]) (by kernel_rfl) (by simp) ?_
          refine (AllReadyH.cons rfl (fun K hK => ?_) AllReadyH.nil)
          rw [if_pos (by rfl)]
          refine wp_alloc M rfl rtX ?_
          clear M
          intro k15 W7 M
          refine hK.out _ _ M.below (fun hS => ?_)
          clear hK hS
          try simp only [Act.put, List.setIfInBounds_toArray, List.set_cons_zero, List.set_cons_succ]
          refine wpAnyH_ready (rs := [18]) (by kernel_rfl) (by simp) ?_
          refine AllReadyH.cons rfl (fun K hK => ?_) AllReadyH.nil
          rw [if_pos (by rfl)]
          refine wp_put M _ _ rfl rtX 1 _ rfl rfl rfl rfl rfl (by simp [Value.oneCell']) ?_
          clear M
          intro W8 M
          simp only [List.set_cons_zero, List.set_cons_succ] at M
          refine hK.out _ _ M.below (fun hS => ?_)
          clear hK hS
          try simp only [Act.put, List.setIfInBounds_toArray, List.set_cons_zero, List.set_cons_succ]
          refine wpAnyH_ready (rs := [19]) (by kernel_rfl) (by simp) ?_
          refine AllReadyH.cons rfl (fun K hK => ?_) AllReadyH.nil
          rw [if_pos (by rfl)]
          refine wp_put M _ _ rfl rtX 0 _ rfl rfl rfl rfl rfl (by simp [Value.oneCell']) ?_
          clear M
          intro W8 M
          simp only [List.set_cons_zero, List.set_cons_succ] at M
          refine hK.out _ _ M.below (fun hS => ?_)
          clear hK hS
          try simp only [Act.put, List.setIfInBounds_toArray, List.set_cons_zero, List.set_cons_succ]
          refine wpAnyH_done (by kernel_rfl) ?_ _
          have y14 := M.get (.tail _ (.head _))
          have y15 := M.get (.head _)
          have n14 := M.ge (.tail _ (.head _))
          have n15 := M.ge (.head _)
          have O9 := O.later M.below
          go_wp2_with (first
      | ((with_reducible show wpList _ _ _ (Oper.mk _ (Op.load 38 (Operand.tmp 14)) _ _ _ _ :: _) _ _); refine wpList_loadw33 (by rfl) _ rfl rfl y14 ?_)
      | ((with_reducible show wpList _ _ _ (Oper.mk _ (Op.store 38 (Operand.tmp 83) _) _ _ _ _ :: _) _ _); refine wpList_ownmnF O9 rfl _ _ rfl h5 v5 o5 g5 rfl rfl ?_; clear O9; intro W9 O9 hfar; have z15 := (hfar k15 (by have := O.lst.lt; omega)).trans y15; clear hfar)
      | ((with_reducible show wpList _ _ _ (Oper.mk _ (Op.load 38 (Operand.tmp 15)) _ _ _ _ :: _) _ _); refine wpList_loadw33 (by rfl) _ rfl rfl z15 ?_)
      | ((with_reducible show wpList _ _ _ (Oper.mk _ (Op.store 38 (Operand.tmp 88) _) _ _ _ _ :: _) _ _); refine wpList_ownmxF O9 rfl _ _ rfl h6 v6 o6 g6 rfl rfl ?_; clear O9; intro W9 O9 hfar))
          exact bodyPost_ret (results_tmp2 rfl _ _ _) rfl (fin_V (by rw [List.length_set]; exact HLN.out) O9.lst (fun g2 off2 e => by cases e; exact O9.ge) O9.below)
        · rw [if_pos (by rfl)]
          refine wp_alloc M rfl rtX ?_
          clear M
          intro k15 W7 M
          refine hK.out _ _ M.below (fun hS => ?_)
          clear hK hS
          try simp only [Act.put, List.setIfInBounds_toArray, List.set_cons_zero, List.set_cons_succ]
          refine wpAnyH_ready (rs := [12]) (by kernel_rfl) (by simp) ?_
          refine (AllReadyH.cons rfl (fun K hK => ?_) AllReadyH.nil)
          go_simp
          go_wp2_with (go_at_call 40; refine (KS _).mono ?_; rintro e W6 ⟨rfl, b6⟩; replace M := M.later b6)
          refine hK.out _ _ M.below (fun hS => ?_)
          clear hK hS
          try simp only [Act.put, List.setIfInBounds_toArray, List.set_cons_zero, List.set_cons_succ]
          refine anyH_take 13 63 ((.tuple #[exv h5 v5 o5 g5, exv h6 v6 o6 g6])) rfl rfl (by kernel_rfl) (by kernel_rfl) (by kernel_rfl) (fun _ _ _ h => h) (Or.inl ⟨by rfl, by intro w hSw; go_simp⟩) (M.below) ?_
          try simp only [Act.put, List.setIfInBounds_toArray, List.set_cons_zero, List.set_cons_succ]
          refine anyH_take 14 77 (exv h5 v5 o5 g5) rfl rfl (by kernel_rfl) (by kernel_rfl) (by kernel_rfl) (fun _ _ _ h => h) (Or.inl ⟨by rfl, by intro w hSw; go_simp⟩) (M.below) ?_
          try simp only [Act.put, List.setIfInBounds_toArray, List.set_cons_zero, List.set_cons_succ]
          refine anyH_take 15 78 (exv h6 v6 o6 g6) rfl rfl (by kernel_rfl) (by kernel_rfl) (by kernel_rfl) (fun _ _ _ h => h) (Or.inl ⟨by rfl, by intro w hSw; go_simp⟩) (M.below) ?_
          try simp only [Act.put, List.setIfInBounds_toArray, List.set_cons_zero, List.set_cons_succ]
          refine wpAnyH_ready (rs := [18]) (by kernel_rfl) (by simp) ?_
          refine AllReadyH.cons rfl (fun K hK => ?_) AllReadyH.nil
          rw [if_pos (by rfl)]
          refine wp_put M _ _ rfl rtX 1 _ rfl rfl rfl rfl rfl (by simp [Value.oneCell']) ?_
          clear M
          intro W8 M
          simp only [List.set_cons_zero, List.set_cons_succ] at M
          refine hK.out _ _ M.below (fun hS => ?_)
          clear hK hS
          try simp only [Act.put, List.setIfInBounds_toArray, List.set_cons_zero, List.set_cons_succ]
          refine wpAnyH_ready (rs := [19]) (by kernel_rfl) (by simp) ?_
          refine AllReadyH.cons rfl (fun K hK => ?_) AllReadyH.nil
          rw [if_pos (by rfl)]
          refine wp_put M _ _ rfl rtX 0 _ rfl rfl rfl rfl rfl (by simp [Value.oneCell']) ?_
          clear M
          intro W8 M
          simp only [List.set_cons_zero, List.set_cons_succ] at M
          refine hK.out _ _ M.below (fun hS => ?_)
          clear hK hS
          try simp only [Act.put, List.setIfInBounds_toArray, List.set_cons_zero, List.set_cons_succ]
          refine wpAnyH_done (by kernel_rfl) ?_ _
          have y14 := M.get (.tail _ (.head _))
          have y15 := M.get (.head _)
          have n14 := M.ge (.tail _ (.head _))
          have n15 := M.ge (.head _)
          have O9 := O.later M.below
          go_wp2_with (first
      | ((with_reducible show wpList _ _ _ (Oper.mk _ (Op.load 38 (Operand.tmp 14)) _ _ _ _ :: _) _ _); refine wpList_loadw33 (by rfl) _ rfl rfl y14 ?_)
      | ((with_reducible show wpList _ _ _ (Oper.mk _ (Op.store 38 (Operand.tmp 83) _) _ _ _ _ :: _) _ _); refine wpList_ownmnF O9 rfl _ _ rfl h5 v5 o5 g5 rfl rfl ?_; clear O9; intro W9 O9 hfar; have z15 := (hfar k15 (by have := O.lst.lt; omega)).trans y15; clear hfar)
      | ((with_reducible show wpList _ _ _ (Oper.mk _ (Op.load 38 (Operand.tmp 15)) _ _ _ _ :: _) _ _); refine wpList_loadw33 (by rfl) _ rfl rfl z15 ?_)
      | ((with_reducible show wpList _ _ _ (Oper.mk _ (Op.store 38 (Operand.tmp 88) _) _ _ _ _ :: _) _ _); refine wpList_ownmxF O9 rfl _ _ rfl h6 v6 o6 g6 rfl rfl ?_; clear O9; intro W9 O9 hfar))
          exact bodyPost_ret (results_tmp2 rfl _ _ _) rfl (fin_V (by rw [List.length_set]; exact HLN.out) O9.lst (fun g2 off2 e => by cases e; exact O9.ge) O9.below)
      · rw [if_pos (by rfl)]
        refine wp_alloc M rfl rtX ?_
        clear M
        intro k15 W7 M
        refine hK.out _ _ M.below (fun hS => ?_)
        clear hK hS
        try simp only [Act.put, List.setIfInBounds_toArray, List.set_cons_zero, List.set_cons_succ]
        refine wpAnyH_ready (rs := [12, 16]) (by kernel_rfl) (by simp) ?_
        refine (AllReadyH.cons rfl (fun K hK => ?_) (AllReadyH.cons rfl (fun K hK => ?_) AllReadyH.nil))
        · go_simp
          go_wp2_with (go_at_call 40; refine (KS _).mono ?_; rintro e W6 ⟨rfl, b6⟩; replace M := M.later b6)
          refine hK.out _ _ M.below (fun hS => ?_)
          clear hK hS
          try simp only [Act.put, List.setIfInBounds_toArray, List.set_cons_zero, List.set_cons_succ]
          refine anyH_take 13 63 ((.tuple #[exv h5 v5 o5 g5, exv h6 v6 o6 g6])) rfl rfl (by kernel_rfl) (by kernel_rfl) (by kernel_rfl) (fun _ _ _ h => h) (Or.inl ⟨by rfl, by intro w hSw; go_simp⟩) (M.below) ?_
          try simp only [Act.put, List.setIfInBounds_toArray, List.set_cons_zero, List.set_cons_succ]
          refine anyH_take 14 77 (exv h5 v5 o5 g5) rfl rfl (by kernel_rfl) (by kernel_rfl) (by kernel_rfl) (fun _ _ _ h => h) (Or.inl ⟨by rfl, by intro w hSw; go_simp⟩) (M.below) ?_
          try simp only [Act.put, List.setIfInBounds_toArray, List.set_cons_zero, List.set_cons_succ]
          refine anyH_take 15 78 (exv h6 v6 o6 g6) rfl rfl (by kernel_rfl) (by kernel_rfl) (by kernel_rfl) (fun _ _ _ h => h) (Or.inl ⟨by rfl, by intro w hSw; go_simp⟩) (M.below) ?_
          try simp only [Act.put, List.setIfInBounds_toArray, List.set_cons_zero, List.set_cons_succ]
          refine wpAnyH_ready (rs := [16]) (by kernel_rfl) (by simp) ?_
          refine (AllReadyH.cons rfl (fun K hK => ?_) AllReadyH.nil)
          rw [if_pos (by rfl)]
          refine wp_alloc M rfl rtX ?_
          clear M
          intro k14 W7 M
          refine hK.out _ _ M.below (fun hS => ?_)
          clear hK hS
          try simp only [Act.put, List.setIfInBounds_toArray, List.set_cons_zero, List.set_cons_succ]
          refine wpAnyH_ready (rs := [18]) (by kernel_rfl) (by simp) ?_
          refine AllReadyH.cons rfl (fun K hK => ?_) AllReadyH.nil
          rw [if_pos (by rfl)]
          refine wp_put M _ _ rfl rtX 0 _ rfl rfl rfl rfl rfl (by simp [Value.oneCell']) ?_
          clear M
          intro W8 M
          simp only [List.set_cons_zero, List.set_cons_succ] at M
          refine hK.out _ _ M.below (fun hS => ?_)
          clear hK hS
          try simp only [Act.put, List.setIfInBounds_toArray, List.set_cons_zero, List.set_cons_succ]
          refine wpAnyH_ready (rs := [19]) (by kernel_rfl) (by simp) ?_
          refine AllReadyH.cons rfl (fun K hK => ?_) AllReadyH.nil
          rw [if_pos (by rfl)]
          refine wp_put M _ _ rfl rtX 1 _ rfl rfl rfl rfl rfl (by simp [Value.oneCell']) ?_
          clear M
          intro W8 M
          simp only [List.set_cons_zero, List.set_cons_succ] at M
          refine hK.out _ _ M.below (fun hS => ?_)
          clear hK hS
          try simp only [Act.put, List.setIfInBounds_toArray, List.set_cons_zero, List.set_cons_succ]
          refine wpAnyH_done (by kernel_rfl) ?_ _
          have y14 := M.get (.head _)
          have y15 := M.get (.tail _ (.head _))
          have n14 := M.ge (.head _)
          have n15 := M.ge (.tail _ (.head _))
          have O9 := O.later M.below
          go_wp2_with (first
      | ((with_reducible show wpList _ _ _ (Oper.mk _ (Op.load 38 (Operand.tmp 14)) _ _ _ _ :: _) _ _); refine wpList_loadw33 (by rfl) _ rfl rfl y14 ?_)
      | ((with_reducible show wpList _ _ _ (Oper.mk _ (Op.store 38 (Operand.tmp 83) _) _ _ _ _ :: _) _ _); refine wpList_ownmnF O9 rfl _ _ rfl h5 v5 o5 g5 rfl rfl ?_; clear O9; intro W9 O9 hfar; have z15 := (hfar k15 (by have := O.lst.lt; omega)).trans y15; clear hfar)
      | ((with_reducible show wpList _ _ _ (Oper.mk _ (Op.load 38 (Operand.tmp 15)) _ _ _ _ :: _) _ _); refine wpList_loadw33 (by rfl) _ rfl rfl z15 ?_)
      | ((with_reducible show wpList _ _ _ (Oper.mk _ (Op.store 38 (Operand.tmp 88) _) _ _ _ _ :: _) _ _); refine wpList_ownmxF O9 rfl _ _ rfl h6 v6 o6 g6 rfl rfl ?_; clear O9; intro W9 O9 hfar))
          exact bodyPost_ret (results_tmp2 rfl _ _ _) rfl (fin_V (by rw [List.length_set]; exact HLN.out) O9.lst (fun g2 off2 e => by cases e; exact O9.ge) O9.below)
        · rw [if_pos (by rfl)]
          refine wp_alloc M rfl rtX ?_
          clear M
          intro k14 W7 M
          refine hK.out _ _ M.below (fun hS => ?_)
          clear hK hS
          try simp only [Act.put, List.setIfInBounds_toArray, List.set_cons_zero, List.set_cons_succ]
          refine wpAnyH_ready (rs := [12]) (by kernel_rfl) (by simp) ?_
          refine (AllReadyH.cons rfl (fun K hK => ?_) AllReadyH.nil)
          go_simp
          go_wp2_with (go_at_call 40; refine (KS _).mono ?_; rintro e W6 ⟨rfl, b6⟩; replace M := M.later b6)
          refine hK.out _ _ M.below (fun hS => ?_)
          clear hK hS
          try simp only [Act.put, List.setIfInBounds_toArray, List.set_cons_zero, List.set_cons_succ]
          refine anyH_take 13 63 ((.tuple #[exv h5 v5 o5 g5, exv h6 v6 o6 g6])) rfl rfl (by kernel_rfl) (by kernel_rfl) (by kernel_rfl) (fun _ _ _ h => h) (Or.inl ⟨by rfl, by intro w hSw; go_simp⟩) (M.below) ?_
          try simp only [Act.put, List.setIfInBounds_toArray, List.set_cons_zero, List.set_cons_succ]
          refine anyH_take 14 77 (exv h5 v5 o5 g5) rfl rfl (by kernel_rfl) (by kernel_rfl) (by kernel_rfl) (fun _ _ _ h => h) (Or.inl ⟨by rfl, by intro w hSw; go_simp⟩) (M.below) ?_
          try simp only [Act.put, List.setIfInBounds_toArray, List.set_cons_zero, List.set_cons_succ]
          refine anyH_take 15 78 (exv h6 v6 o6 g6) rfl rfl (by kernel_rfl) (by kernel_rfl) (by kernel_rfl) (fun _ _ _ h => h) (Or.inl ⟨by rfl, by intro w hSw; go_simp⟩) (M.below) ?_
          try simp only [Act.put, List.setIfInBounds_toArray, List.set_cons_zero, List.set_cons_succ]
          refine wpAnyH_ready (rs := [18]) (by kernel_rfl) (by simp) ?_
          refine AllReadyH.cons rfl (fun K hK => ?_) AllReadyH.nil
          rw [if_pos (by rfl)]
          refine wp_put M _ _ rfl rtX 0 _ rfl rfl rfl rfl rfl (by simp [Value.oneCell']) ?_
          clear M
          intro W8 M
          simp only [List.set_cons_zero, List.set_cons_succ] at M
          refine hK.out _ _ M.below (fun hS => ?_)
          clear hK hS
          try simp only [Act.put, List.setIfInBounds_toArray, List.set_cons_zero, List.set_cons_succ]
          refine wpAnyH_ready (rs := [19]) (by kernel_rfl) (by simp) ?_
          refine AllReadyH.cons rfl (fun K hK => ?_) AllReadyH.nil
          rw [if_pos (by rfl)]
          refine wp_put M _ _ rfl rtX 1 _ rfl rfl rfl rfl rfl (by simp [Value.oneCell']) ?_
          clear M
          intro W8 M
          simp only [List.set_cons_zero, List.set_cons_succ] at M
          refine hK.out _ _ M.below (fun hS => ?_)
          clear hK hS
          try simp only [Act.put, List.setIfInBounds_toArray, List.set_cons_zero, List.set_cons_succ]
          refine wpAnyH_done (by kernel_rfl) ?_ _
          have y14 := M.get (.head _)
          have y15 := M.get (.tail _ (.head _))
          have n14 := M.ge (.head _)
          have n15 := M.ge (.tail _ (.head _))
          have O9 := O.later M.below
          go_wp2_with (first
      | ((with_reducible show wpList _ _ _ (Oper.mk _ (Op.load 38 (Operand.tmp 14)) _ _ _ _ :: _) _ _); refine wpList_loadw33 (by rfl) _ rfl rfl y14 ?_)
      | ((with_reducible show wpList _ _ _ (Oper.mk _ (Op.store 38 (Operand.tmp 83) _) _ _ _ _ :: _) _ _); refine wpList_ownmnF O9 rfl _ _ rfl h5 v5 o5 g5 rfl rfl ?_; clear O9; intro W9 O9 hfar; have z15 := (hfar k15 (by have := O.lst.lt; omega)).trans y15; clear hfar)
      | ((with_reducible show wpList _ _ _ (Oper.mk _ (Op.load 38 (Operand.tmp 15)) _ _ _ _ :: _) _ _); refine wpList_loadw33 (by rfl) _ rfl rfl z15 ?_)
      | ((with_reducible show wpList _ _ _ (Oper.mk _ (Op.store 38 (Operand.tmp 88) _) _ _ _ _ :: _) _ _); refine wpList_ownmxF O9 rfl _ _ rfl h6 v6 o6 g6 rfl rfl ?_; clear O9; intro W9 O9 hfar))
          exact bodyPost_ret (results_tmp2 rfl _ _ _) rfl (fin_V (by rw [List.length_set]; exact HLN.out) O9.lst (fun g2 off2 e => by cases e; exact O9.ge) O9.below)
end Go.Proofs.YtoeebofappbneaaGreat

namespace Go.Proofs.YtoeebofappbneaaGreat
open Go.ChangeShapes Go.WideShapes Go.ChangeAt Go.RowKit Go.Maps Go.Shelf
set_option linter.unusedVariables false
set_option linter.unusedSimpArgs false

abbrev cN1 : CH := ⟨nM, 1, 3, true, 1, 4⟩
abbrev cN2 : CH := ⟨nM, 2, 3, false, 1, 4⟩
abbrev sN1 : ST := ⟨cN1, true, 20, E.EX.z, E.EX.z⟩
theorem fit_nil : fitL [] = true := by decide
theorem xa1 : crE (recs []) nM 1 4 = 0 := by decide
theorem xa2 : crS [] 3 nM 1 4 = [begs cN1] := by unfold crS; rw [if_pos xa1]; rfl
theorem is_m {s : ST} (h1 : s.c.nm = nM) (h2 : s.c.al = true) : isP nM s = true := by unfold isP; rw [eqN_iff.2 h1, h2]; rfl
theorem plc_m {s : ST} (h1 : s.c.nm = nM) (h2 : s.c.al = true) : plc nM [s] = some 0 := plc_some (by simp) (fun j h => by omega) (is_m h1 h2)
theorem xf1 : fitL [begs cN1] = true := by rw [← xa2]; exact crS_fit fit_nil (by decide) nM 1 4
theorem xb1 : stE [begs cN1] nM 5 = 0 := by unfold stE; rw [plc_m rfl rfl]; decide
theorem xb2 : stS [begs cN1] 3 nM 5 = [sN1] := by unfold stS; rw [plc_m rfl rfl]; rfl
theorem xb3 : stE [begs cN1] nM 600000000 = 10 := by unfold stE; rw [plc_m rfl rfl]; decide
theorem xf2 : fitL [sN1] = true := by rw [← xb2]; exact stS_fit xf1 (by decide) nM 5
theorem xc1 : fdV nM [sN1] = .tuple #[sN1.val, .bool true] := by unfold fdV fdT; rw [plc_m rfl rfl]; rfl
theorem lkN : lk nM (recs [sN1]) = some cN1 := if_pos rfl
theorem xd1 : dlE (recs [sN1]) nM = 0 := by unfold dlE; rw [lkN]; rfl
theorem xd2 : dlS [sN1] 3 nM = [begs cN2] := by
  have e : dlM (recs [sN1]) 3 nM = cN2 := by unfold dlM; rw [lkN]; rfl
  have h : ltN nM nM = false := lt_irr _
  unfold dlS
  rw [if_pos xd1, e, anw, if_neg (by rw [h]; decide), if_neg (by rw [h]; decide)]
theorem xf3 : fitL [begs cN2] = true := by rw [← xd2]; exact dlS_fit xf2 (by decide) nM
theorem xe1 : stE [begs cN2] nM 1 = 44 := by
  unfold stE
  rw [plc_none (fun j hj => ?_)]
  have : j = 0 := by simpa using hj
  subst this
  unfold isP
  rw [show ([begs cN2].getD 0 ST.z).c.al = false from rfl, Bool.and_false]
theorem xg1 : fitS 3 [sN1] = true := by rw [fitS_iff]; exact ⟨by decide, xf2⟩
set_option maxRecDepth 100000 in
set_option maxHeartbeats 8000000 in
theorem awake_anyS (w : World) : Calls Tryz.prog 6 #[] w fun e w' => e = .returned (.bool true) ∧ Below w.heap.size w w' := by
  have K1 := create_anyS none 0 [] 3 nM 1 4 w (rdT_nil w) fit_nil
  rw [xa1, xa2] at K1
  have K2 : ∀ W a c, LstT W a 1 c [begs cN1] → Calls Tryz.prog 13 #[.slice a 1 c, .int .i64 3, .string nM, .int .i64 5] W (AnsV W [sN1] (.int .i64 0)) := fun W a c h => by
    have h9 := set_anyS a c [begs cN1] 3 nM 5 W (h.rd (by decide)) xf1
    rw [xb1, xb2] at h9
    exact h9
  have K3 : ∀ W a c, LstT W a 1 c [begs cN1] → Calls Tryz.prog 13 #[.slice a 1 c, .int .i64 3, .string nM, .int .i64 600000000] W fun e w' => ∃ v, e = .returned (.tuple #[v, .int .i64 10]) ∧ Below W.heap.size W w' := fun W a c h => by
    have h9 := set_anyS a c [begs cN1] 3 nM 600000000 W (h.rd (by decide)) xf1
    rw [xb3] at h9
    refine h9.mono ?_
    rintro e w' ⟨a', c', rfl, _, _, b⟩
    exact ⟨_, rfl, b⟩
  have K4 : ∀ W a c, LstT W a 1 c [sN1] → Calls Tryz.prog 23 #[.slice a 1 c, .string nM] W fun e w' => e = .returned (.tuple #[ste nM 1 3 true 1 4 true 20 false 0 0 0 false 0 0 0, .bool true]) ∧ Below W.heap.size W w' := fun W a c h => by
    have h9 := find_anyT a 1 c [sN1] nM W (h.rd (by decide))
    rw [xc1] at h9
    exact h9
  have K5 : ∀ W a c, LstT W a 1 c [sN1] → Calls Tryz.prog 11 #[.slice a 1 c, .int .i64 3, .string nM] W (AnsV W [begs cN2] (.int .i64 0)) := fun W a c h => by
    have h9 := delete_anyS a c [sN1] 3 nM W (h.rd (by decide)) xf2
    rw [xd1, xd2] at h9
    exact h9
  have K6 : ∀ W a c, LstT W a 1 c [begs cN2] → Calls Tryz.prog 13 #[.slice a 1 c, .int .i64 3, .string nM, .int .i64 1] W fun e w' => ∃ v, e = .returned (.tuple #[v, .int .i64 44]) ∧ Below W.heap.size W w' := fun W a c h => by
    have h9 := set_anyS a c [begs cN2] 3 nM 1 W (h.rd (by decide)) xf3
    rw [xe1] at h9
    refine h9.mono ?_
    rintro e w' ⟨a', c', rfl, _, _, b⟩
    exact ⟨_, rfl, b⟩
  have K7 : ∀ W a c, LstT W a 1 c [sN1] → Calls Tryz.prog 24 #[.int .i64 3, .slice a 1 c] W fun e w' => e = .returned (.bool true) ∧ Below W.heap.size W w' := fun W a c h => by
    have h9 := fit_any7 3 a 1 c [sN1] W (h.rd (by decide))
    rw [xg1] at h9
    exact h9
  have K8 := fun W => flows_any 1 W
  rw [show flowsB 1 = true from rfl] at K8
  go_enter Tryz.func6, Tryz.ntmps6
  go_wp2_with (first
      | (go_at_call 8; refine K1.mono ?_; clear K1; rintro e W1 ⟨a1, c1, rfl, L1, f1, b1⟩; have M := (Mem.nil w).later b1)
      | (go_at_call 13; refine (K2 _ _ _ L1).mono ?_; clear K2; rintro e W2 ⟨a2, c2, rfl, L2, f2, b2⟩; replace L1 := L1.below b2; replace M := M.later b2; clear b2)
      | (go_at_call 13; refine (K3 _ _ _ L1).mono ?_; clear K3 L1; rintro e W3 ⟨v3, rfl, b3⟩; replace L2 := L2.below b3; replace M := M.later b3; clear b3)
      | (go_at_call 23; refine (K4 _ _ _ L2).mono ?_; clear K4; rintro e W4 ⟨rfl, b4⟩; replace L2 := L2.below b4; replace M := M.later b4; clear b4; have B := M.below; clear M; have M := Mem.nil W4)
      | ((with_reducible show wpList _ _ _ (Oper.mk (some 7) (Op.alloc 49) _ _ _ _ :: _) _ _); refine wpList_alloc M rfl rfl rtT ?_; clear M; intro k7 W M)
      | ((with_reducible show wpList _ _ _ (Oper.mk _ (Op.store 49 _ _) _ _ _ _ :: _) _ _); (first | (refine wpList_put M rfl _ _ rfl rtT 0 _ rfl rfl rfl rfl rfl (by simp [Value.oneCell']) ?_)); clear M; intro W M; simp only [List.set_cons_zero, List.set_cons_succ] at M)
      | (go_at_call 11; refine (K5 _ _ _ (L2.below M.below)).mono ?_; clear K5; rintro e W5 ⟨a3, c3, rfl, L3, f3, b3⟩; replace M := M.later b3; clear b3)
      | (go_at_call 13; refine (K6 _ _ _ L3).mono ?_; clear K6 L3; rintro e W6 ⟨v6, rfl, b6⟩; replace M := M.later b6; clear b6)
      | ((with_reducible show wpList _ _ _ (Oper.mk _ (Op.load 2 _) _ _ _ _ :: _) _ _); refine wpList_cell2 M (by rfl) _ rfl _ rfl (by first | exact .head _) rfl ?_)
      | ((with_reducible show wpList _ _ _ (Oper.mk _ (Op.load 4 _) _ _ _ _ :: _) _ _); refine wpList_cell4 M (by rfl) _ rfl _ rfl (by first | exact .head _) rfl ?_)
      | (go_at_call 24; refine (K7 _ _ _ (L2.below M.below)).mono ?_; clear K7; rintro e W7 ⟨rfl, b7⟩; replace M := M.later b7; clear b7)
      | (go_at_call 25; refine (K8 _).mono ?_; clear K8; rintro e W8 ⟨rfl, rfl⟩))
  go_ret
  exact ⟨rfl, B.trans (M.below.mono B.size)⟩
end Go.Proofs.YtoeebofappbneaaGreat

namespace Go.Proofs.YtoeebofappbneaaGreat
open Go.ChangeShapes Go.WideShapes Go.ChangeAt Go.RowKit Go.Maps Go.Shelf
set_option linter.unusedVariables false
set_option linter.unusedSimpArgs false

theorem names_small {l : List ST} (hf : fitL l = true) : ∀ x, x ∈ recs l → (x.nm.size : Int) ≤ 9223372036854775807 := fun x hx => by
  have h := (fit_parts (fitsB_fit (fitL_iff.1 hf).1 x hx)).1
  unfold nameB at h
  rw [Bool.and_eq_true] at h
  have := of_decide_eq_true h.1
  omega
theorem fitS_of {id : Int} {l : List ST} (h1 : nodeB id = true) (h2 : fitL l = true) : fitS id l = true := fitS_iff.2 ⟨h1, h2⟩
theorem rd8 {W : World} {a : Option Addr} {cap : Nat} {l : List ST} (hf : fitL l = true) (L : LstT W a l.length cap l) : RdT W a l.length cap l := L.rd (by have := fitL_len hf; omega)
end Go.Proofs.YtoeebofappbneaaGreat

namespace Go.Proofs.YtoeebofappbneaaGreat
open Go.ChangeShapes Go.WideShapes Go.ChangeAt Go.RowKit Go.Maps Go.Shelf
set_option linter.unusedVariables false
set_option linter.unusedSimpArgs false

set_option maxRecDepth 100000 in
set_option maxHeartbeats 16000000 in
theorem calls_walk (id : Int) (a : Option Addr) (n cap : Nat) (l : List ST) (name : ByteArray) (kind x : Int) (w : World) (hr : RdT w a n cap l) (hs : Hid (∀ x, x ∈ recs l → (x.nm.size : Int) ≤ 9223372036854775807)) (hn : Hid ((name.size : Int) ≤ 9223372036854775807)) :
    Calls Tryz.prog 3 #[.int .i64 id, .slice a n cap, .string name, .int .i64 kind, .int .i64 x] w fun e w' => e = .returned (.bool true) ∧ Below w.heap.size w w' := by
  have M := Mem.nil w
  have hz := hr.size
  subst hz
  have K1 := fun W (b : Below w.heap.size w W) => rfit_any8 id a _ cap l W (hr.below b) hs.out
  cases hf : fitS id l with
  | false =>
    rw [hf] at K1
    clear hf hr hs hn
    go_enter Tryz.func3, Tryz.ntmps3
    go_wp2_with (first
      | (go_at_call 5; refine (K1 _ M.below).mono ?_; clear K1; rintro e W1 ⟨rfl, b1⟩; replace M := M.later b1; clear b1)
      | (go_at_call 6; refine (awake_anyS _).mono ?_; rintro e W9 ⟨rfl, b9⟩; replace M := M.later b9; clear b9))
    go_ret
    exact ⟨rfl, M.below⟩
  | true =>
    rw [hf] at K1
    obtain ⟨hid, hfl⟩ := fitS_iff.1 hf
    have HFL : Hid (fitL l = true) := hfl
    have KO := fun W (b : Below w.heap.size w W) => rcopy_any a cap l W (hr.below b)
    have C1 := fun (q : Option Addr) (c : Nat) W (R : RdT W q l.length c l) => create_anyS q c l id name kind x W R HFL.out
    have C2 := fun W (b : Below w.heap.size w W) => rcreate_anyS a cap l id name kind x W (hr.below b) HFL.out hn.out
    have D1 := fun (q : Option Addr) (c : Nat) W (R : RdT W q l.length c l) => delete_anyS q c l id name W R HFL.out
    have D2 := fun W (b : Below w.heap.size w W) => rdelete_anyS a cap l id name W (hr.below b) HFL.out hn.out
    have S1 := fun (q : Option Addr) (c : Nat) W (R : RdT W q l.length c l) => set_anyS q c l id name x W R HFL.out
    have S2 := fun W (b : Below w.heap.size w W) => rset_anyS a cap l id name x W (hr.below b) HFL.out hid
    have hfc := crS_fit hfl hid name kind x
    have hfd := dlS_fit hfl hid name
    have hfs := stS_fit hfl hid name x
    obtain ⟨LC, eC⟩ : ∃ L, crS l id name kind x = L := ⟨_, rfl⟩
    obtain ⟨LD, eD⟩ : ∃ L, dlS l id name = L := ⟨_, rfl⟩
    obtain ⟨LS, eS⟩ : ∃ L, stS l id name x = L := ⟨_, rfl⟩
    obtain ⟨EC, fC⟩ : ∃ E, crE (recs l) name kind x = E := ⟨_, rfl⟩
    obtain ⟨ED, fD⟩ : ∃ E, dlE (recs l) name = E := ⟨_, rfl⟩
    obtain ⟨ES, fS⟩ : ∃ E, stE l name x = E := ⟨_, rfl⟩
    rw [eC, fC] at C1 C2
    rw [eD, fD] at D1 D2
    rw [eS, fS] at S1 S2
    rw [eC] at hfc
    rw [eD] at hfd
    rw [eS] at hfs
    have HFC : Hid (fitL LC = true) := hfc
    have HFD : Hid (fitL LD = true) := hfd
    have HFS : Hid (fitL LS = true) := hfs
    have QC := fun (p q : Option Addr) (c d : Nat) W (R : RdT W p LC.length c LC) (R2 : RdT W q LC.length d LC) => rsame_any p q _ _ c d LC LC W R R2
    have QD := fun (p q : Option Addr) (c d : Nat) W (R : RdT W p LD.length c LD) (R2 : RdT W q LD.length d LD) => rsame_any p q _ _ c d LD LD W R R2
    have QS := fun (p q : Option Addr) (c d : Nat) W (R : RdT W p LS.length c LS) (R2 : RdT W q LS.length d LS) => rsame_any p q _ _ c d LS LS W R R2
    have QO := fun (p : Option Addr) (c : Nat) W (R : RdT W p l.length c l) (b : Below w.heap.size w W) => rsame_any p a _ _ c cap l l W R (hr.below b)
    rw [sameT_self] at QC QD QS QO
    have FC := fun (p : Option Addr) (c : Nat) W (R : RdT W p LC.length c LC) => rfit_any8 id p _ c LC W R (names_small HFC.out)
    have FD := fun (p : Option Addr) (c : Nat) W (R : RdT W p LD.length c LD) => rfit_any8 id p _ c LD W R (names_small HFD.out)
    have FU := fun (p : Option Addr) (c : Nat) W (R : RdT W p LS.length c LS) => rfit_any8 id p _ c LS W R (names_small HFS.out)
    rw [fitS_of hid hfc] at FC
    rw [fitS_of hid hfd] at FD
    rw [fitS_of hid hfs] at FU
    have v1 : (EC != EC) = false := by simp
    have v2 : (ED != ED) = false := by simp
    have v3 : (ES == ES) = true := by simp
    clear hf hs hn hid hfl hfc hfd hfs eC eD eS fC fD fS
    go_enter Tryz.func3, Tryz.ntmps3
    go_wp2_with (first
      | (go_at_call 5; refine (K1 _ M.below).mono ?_; clear K1; rintro e W1 ⟨rfl, b1⟩; replace M := M.later b1; clear b1)
      | (go_at_call 7; refine (KO _ M.below).mono ?_; clear KO; rintro e W1 ⟨a1, c1, rfl, L1, o1, b1⟩; replace M := M.later b1; have R1 := rd8 HFL.out L1; clear b1 o1 L1)
      | (go_at_call 8; refine (C1 _ _ _ R1).mono ?_; clear C1; rintro e W1 ⟨a2, c2, rfl, L1, o1, b1⟩; replace M := M.later b1; have R2 := rd8 HFC.out L1; replace R1 := R1.below b1; clear b1 o1 L1)
      | (go_at_call 9; refine (C2 _ M.below).mono ?_; clear C2; rintro e W1 ⟨a3, c3, rfl, L1, o1, b1⟩; replace M := M.later b1; have R3 := rd8 HFC.out L1; replace R1 := R1.below b1; replace R2 := R2.below b1; clear b1 o1 L1)
      | (go_at_call 10; refine (QC _ _ _ _ _ R2 R3).mono ?_; clear QC; rintro e W1 ⟨rfl, b1⟩; replace M := M.later b1; replace R1 := R1.below b1; replace R2 := R2.below b1; clear R3; clear b1)
      | (go_at_call 5; refine (FC _ _ _ R2).mono ?_; clear FC; rintro e W1 ⟨rfl, b1⟩; replace M := M.later b1; replace R1 := R1.below b1; clear R2; clear b1)
      | (go_at_call 11; refine (D1 _ _ _ R1).mono ?_; clear D1; rintro e W1 ⟨a4, c4, rfl, L1, o1, b1⟩; replace M := M.later b1; have R4 := rd8 HFD.out L1; replace R1 := R1.below b1; clear b1 o1 L1)
      | (go_at_call 12; refine (D2 _ M.below).mono ?_; clear D2; rintro e W1 ⟨a5, c5, rfl, L1, o1, b1⟩; replace M := M.later b1; have R5 := rd8 HFD.out L1; replace R1 := R1.below b1; replace R4 := R4.below b1; clear b1 o1 L1)
      | (go_at_call 10; refine (QD _ _ _ _ _ R4 R5).mono ?_; clear QD; rintro e W1 ⟨rfl, b1⟩; replace M := M.later b1; replace R1 := R1.below b1; replace R4 := R4.below b1; clear R5; clear b1)
      | (go_at_call 5; refine (FD _ _ _ R4).mono ?_; clear FD; rintro e W1 ⟨rfl, b1⟩; replace M := M.later b1; replace R1 := R1.below b1; clear R4; clear b1)
      | (go_at_call 13; refine (S1 _ _ _ R1).mono ?_; clear S1; rintro e W1 ⟨a6, c6, rfl, L1, o1, b1⟩; replace M := M.later b1; have R6 := rd8 HFS.out L1; replace R1 := R1.below b1; clear b1 o1 L1)
      | (go_at_call 14; refine (S2 _ M.below).mono ?_; clear S2; rintro e W1 ⟨a7, c7, rfl, L1, o1, b1⟩; replace M := M.later b1; have R7 := rd8 HFS.out L1; replace R1 := R1.below b1; replace R6 := R6.below b1; clear b1 o1 L1)
      | (go_at_call 10; refine (QS _ _ _ _ _ R6 R7).mono ?_; clear QS; rintro e W1 ⟨rfl, b1⟩; replace M := M.later b1; replace R1 := R1.below b1; replace R6 := R6.below b1; clear R7; clear b1)
      | (go_at_call 5; refine (FU _ _ _ R6).mono ?_; clear FU; rintro e W1 ⟨rfl, b1⟩; replace M := M.later b1; replace R1 := R1.below b1; clear R6; clear b1)
      | (go_at_call 10; refine (QO _ _ _ R1 M.below).mono ?_; clear QO; rintro e W1 ⟨rfl, b1⟩; replace M := M.later b1; clear R1; clear b1)
      | (go_at_call 6; refine (awake_anyS _).mono ?_; rintro e W9 ⟨rfl, b9⟩; replace M := M.later b9; clear b9))
    go_ret
    exact ⟨rfl, M.below⟩
end Go.Proofs.YtoeebofappbneaaGreat

namespace Go.Proofs.YtoeebofappbneaaGreat.chansCalls
open Go.ChangeShapes Go.WideShapes Go.ChangeAt Go.RowKit Go.Deep
open Go.ChangeMaps (open_string shut_string)
set_option linter.unusedVariables false
set_option linter.unusedSimpArgs false

theorem own : ownKnob Tryz.prog.godebug = none := by kernel_rfl
theorem laidOut : laidOutB Tryz.prog = true := by kernel_rfl

set_option maxRecDepth 100000 in
theorem lifted (os : Os) (started : os.Started) (H : Type) (enc : TypeId × Value → H) :
    ReturnsInHanded {} Tryz.checked os 3 .any (Rows.chansCallsSpec.pre6 enc Tryz.prog Tryz.f3 Rows.chansCallsRow.domain false) (Rows.chansCallsSpec.post enc Tryz.prog Tryz.f3 false true false false) := by
  refine returnsInHanded_of_change_sized (C := Tryz.checked) own started (by kernel_rfl) Tryz.func3
    (ChangeSpec.witness6 (enc := enc) (C := Tryz.checked) false ⟨#[], #[.int .i64 0, .slice none 0 0, .string ⟨#[]⟩, .int .i64 0, .int .i64 0], []⟩ 8 (by kernel_rfl) (by kernel_rfl) (by kernel_rfl) (by kernel_rfl)) ?_
  intro W base args ds gs before hval0 hW hcnd hsz0 _
  have hsz : (DataW.weightsEach Tryz.prog (Tryz.f3.params.toList ++ Rows.chansCallsSpec.plain.varTypes Tryz.prog) (ds ++ gs)).all (· ≤ reachBytes) = true := hsz0
  clear hsz0
  have hval : ∀ (j : Nat) t v, Tryz.f3.params[j]? = some t → args[j]? = some v → Value.okWide Tryz.prog W .any base t v := hval0
  have hW' := hW
  obtain ⟨p, q, hA0, hV, rfl, hfz, hnd⟩ := hW
  have hA : DataW.TrodAll enc Tryz.prog W 0 (fun _ => true) true Tryz.f3.params.toList args.toList ds p := hA0
  rw [Tryz.params3] at hA hval hsz
  obtain ⟨v0, vs0, d0, ds0, p0, q0, hargs, rfl, rfl, h0, r0⟩ := trodAll_cons hA
  obtain ⟨v1, vs1, d1, ds1, p1, q1, rfl, rfl, rfl, h1, r1⟩ := trodAll_cons r0
  obtain ⟨v2, vs2, d2, ds2, p2, q2, rfl, rfl, rfl, h2, r2⟩ := trodAll_cons r1
  obtain ⟨v3, vs3, d3, ds3, p3, q3, rfl, rfl, rfl, h3, r3⟩ := trodAll_cons r2
  obtain ⟨v4, vs4, d4, ds4, p4, q4, rfl, rfl, rfl, h4, r4⟩ := trodAll_cons r3
  obtain ⟨rfl, rfl, rfl⟩ := trodAll_nil r4
  obtain rfl : args = #[v0, v1, v2, v3, v4] := by cases args; simp_all
  obtain ⟨rfl, rfl⟩ := trodVars_none hV
  obtain ⟨a0, rfl, rfl, rfl, w0⟩ := open_int Tryz.underlying3 (hval 0 3 v0 rfl rfl) h0
  have k1 := h1
  have lt1 : ∀ x ∈ p1, x.block < W.heap.size := by obtain ⟨m, hm⟩ := k1; exact DataW.trod_lt m _ _ _ hm
  obtain ⟨a1, len1, cap1, rfl⟩ := okWide_slice Tryz.underlying22 (hval 1 22 v1 rfl rfl)
  obtain ⟨l1, O1, S1⟩ := open_states k1 (sized_arg hsz (j := 1) (t := 22) rfl rfl)
  obtain ⟨a2, rfl, rfl, rfl, w2⟩ := open_string Tryz.underlying9 (hval 2 9 v2 rfl rfl) h2
  have s2 : Hid ((a2.size : Int) ≤ 9223372036854775807) := by show _ ≤ _; have := w2; unfold maxLen at this; omega
  obtain ⟨a3, rfl, rfl, rfl, w3⟩ := open_int Tryz.underlying3 (hval 3 3 v3 rfl rfl) h3
  obtain ⟨a4, rfl, rfl, rfl, w4⟩ := open_int Tryz.underlying2 (hval 4 2 v4 rfl rfl) h4
  clear hA0 hval0
  refine (calls_walk a0 a1 len1 cap1 l1 a2 a3 a4 W O1 S1 s2).mono fun e W' ⟨he, bel⟩ => ?_
  subst he
  exact ⟨_, rfl, _, _, _, [], _, [], hW', trodAll_mk1 (shut_bool Tryz.underlying4 _), (trodAll_cons_mk (shut_int Tryz.underlying3 w0) (trodAll_cons_mk (Below.trod laidOut (by kernel_rfl) (of_decide_eq_true (by kernel_rfl)) k1 bel lt1) (trodAll_cons_mk (shut_string Tryz.underlying9 w2) (trodAll_cons_mk (shut_int Tryz.underlying3 w3) (trodAll_cons_mk (shut_int Tryz.underlying2 w4) trodAll_mk0))))), rfl, bel.frame _, fun h => by cases h⟩

theorem over : Rows.chansCallsRow.holds Tryz.pinned (OpenSpec.ofChange Rows.chansCallsSpec) :=
  OpenClaim.holds_of_wide 3 Tryz.f3 rfl rfl rfl rfl rfl rfl rfl ⟨rfl, rfl, rfl, rfl, rfl⟩ rfl rfl rfl rfl rfl (by kernel_rfl) Tryz.func3 (by kernel_rfl)
    (of_decide_eq_true (by kernel_rfl)) (by unfold Func.isWrapper; first | (rw [if_pos (by decide +kernel)]; kernel_rfl) | (rw [if_neg (by decide +kernel)]; exact ⟨rfl, rfl⟩))
    (fun os started H enc _ => lifted os started H enc)

/-- The statement. -/
theorem proved : Rows.ChansCallsSaid := over
#print axioms proved
end Go.Proofs.YtoeebofappbneaaGreat.chansCalls
