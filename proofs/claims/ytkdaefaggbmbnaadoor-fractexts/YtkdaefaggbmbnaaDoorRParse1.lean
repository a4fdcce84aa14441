/-
  What the document's own Parse returns, by what its digits tell.
-/
import Derived.Test.YtkdaefaggbmbnaaDoorPint2
import Derived.Test.YtkdaefaggbmbnaaDoorRefValid
namespace Go.Proofs.YtkdaefaggbmbnaaDoor
open Go.ChangeShapes Go.WideShapes Go.ChangeAt Go.RowKit
set_option linter.unusedVariables false
set_option linter.unusedSimpArgs false

set_option maxRecDepth 100000 in
set_option maxHeartbeats 2000000 in
theorem rp_yes_end_bad (s : ByteArray) (n k d m : Nat) (w : World) (ht : Tab w) (hs' : (s.size : Int) ≤ 281474976710656) (hk : (k : Int) ≤ 11) (hn : (n : Int) ≤ 99999999999) (hm : (m : Int) ≤ 11) (hd : (d : Int) ≤ 99999999999) (h0 : 0 < s.size) (hc : (s[0]'h0).toNat = 45) (t1 : ByteArray) (e1 : s.extract 1 s.size = t1) (H1 : ∀ W, Calls Tryd.prog 20 #[.string t1] W fun e w' => e = .returned (.tuple #[.int .i64 (n : Nat), .int .i64 (k : Nat)]) ∧ w' = W) (p : Nat) (hp : 1 + k = p) (hps : p ≤ s.size) (hq : p = s.size) (hl : p = s.size) (a b : Int) (ea : (-(n : Int)) = a) (eb : 1 = b) (hv : validB a b = false) :
    Calls Tryd.prog 7 #[.string s] w fun e w' => e = .returned (.tuple #[fr 0 0, .bool false]) ∧ Below w.heap.size w w' := by
  have g0 : ((0 : Int) < (s.size : Int)) := by omega
  have hc1 : (((s[0]'h0).toNat : Int) == 45) = true := by simp; omega
  have hc2 : (((s[0]'h0).toNat : Int) = 45) := by omega
  have hp1 : (((1 : Int)) + (k : Int)) = (p : Int) := by omega
  have hps1 : (p : Int) ≤ (s.size : Int) := by omega
  have g1 : ¬ ((p : Int) < (s.size : Int)) := by omega
  have l1 : ((p : Int) != (s.size : Int)) = false := by simp; omega
  have l3 : ((p : Int) == (s.size : Int)) = true := by simp; omega
  have ha : I64 a := by unfold I64; omega
  have hb : I64 b := by unfold I64; omega
  have HV := fun W => rvalid_any a b W ha.1 ha.2 hb.1 hb.2
  rw [hv] at HV
  subst ea eb
  clear hv ha hb
  clear hl hp hps hq
  go_enter Tryd.func7, Tryd.ntmps7
  go_wp2_with (first
    | (go_at_call 20; refine (H1 _).mono ?_; rintro e wx ⟨rfl, hw⟩; rw [hw]; clear hw wx H1)
    | (go_at_call 8; refine (HV _).mono ?_; rintro e w4 ⟨rfl, hb4⟩; have T4 := ((Two.new w (.int .i64 0) (.int .i64 0) 23).alloc _).below hb4; have F4 := ((Two.new (w.alloc _) _ _ 23).below hb4).at (k' := w.heap.size + 1) (by simp); have hB4 : Below w.heap.size w w4 := Below.trans (by go_grown) (hb4.mono (by first | (simp; done) | (simp; omega))); clear HV hb4; obtain ⟨q0, q1, f0, f1, z⟩ := id T4; obtain ⟨g0, g1, _, _, y⟩ := id F4))
  exact bodyPost_ret (v := .tuple #[fr 0 0, .bool false]) (by simp [results, Tryd.results7, go_sem, q0, q1, z]) rfl ⟨rfl, by go_grown⟩
set_option maxRecDepth 100000 in
set_option maxHeartbeats 2000000 in
theorem rp_yes_end_ne (s : ByteArray) (n k d m : Nat) (w : World) (ht : Tab w) (hs' : (s.size : Int) ≤ 281474976710656) (hk : (k : Int) ≤ 11) (hn : (n : Int) ≤ 99999999999) (hm : (m : Int) ≤ 11) (hd : (d : Int) ≤ 99999999999) (h0 : 0 < s.size) (hc : (s[0]'h0).toNat = 45) (t1 : ByteArray) (e1 : s.extract 1 s.size = t1) (H1 : ∀ W, Calls Tryd.prog 20 #[.string t1] W fun e w' => e = .returned (.tuple #[.int .i64 (n : Nat), .int .i64 (k : Nat)]) ∧ w' = W) (p : Nat) (hp : 1 + k = p) (hps : p ≤ s.size) (hq : p = s.size) (hl : p = s.size) (a b : Int) (ea : (-(n : Int)) = a) (eb : 1 = b) (hv : validB a b = true) (x : ByteArray) (hx : txt a b = x) (hne : ¬ x = s) :
    Calls Tryd.prog 7 #[.string s] w fun e w' => e = .returned (.tuple #[fr 0 0, .bool false]) ∧ Below w.heap.size w w' := by
  have g0 : ((0 : Int) < (s.size : Int)) := by omega
  have hc1 : (((s[0]'h0).toNat : Int) == 45) = true := by simp; omega
  have hc2 : (((s[0]'h0).toNat : Int) = 45) := by omega
  have hp1 : (((1 : Int)) + (k : Int)) = (p : Int) := by omega
  have hps1 : (p : Int) ≤ (s.size : Int) := by omega
  have g1 : ¬ ((p : Int) < (s.size : Int)) := by omega
  have l1 : ((p : Int) != (s.size : Int)) = false := by simp; omega
  have l3 : ((p : Int) == (s.size : Int)) = true := by simp; omega
  have ha : I64 a := by unfold I64; omega
  have hb : I64 b := by unfold I64; omega
  have HV := fun W => rvalid_any a b W ha.1 ha.2 hb.1 hb.2
  rw [hv] at HV
  have HX := fun W h => rtext_any a b W ha hb h
  rw [hx] at HX
  have n1 := str_ne hne
  have n2 := str_ne' hne
  clear hx
  subst ea eb
  clear hv ha hb
  clear hl hp hps hq
  go_enter Tryd.func7, Tryd.ntmps7
  go_wp2_with (first
    | (go_at_call 20; refine (H1 _).mono ?_; rintro e wx ⟨rfl, hw⟩; rw [hw]; clear hw wx H1)
    | (go_at_call 8; refine (HV _).mono ?_; rintro e w4 ⟨rfl, hb4⟩; have T4 := ((Two.new w (.int .i64 0) (.int .i64 0) 23).alloc _).below hb4; have F4 := ((Two.new (w.alloc _) _ _ 23).below hb4).at (k' := w.heap.size + 1) (by simp); have hB4 : Below w.heap.size w w4 := Below.trans (by go_grown) (hb4.mono (by first | (simp; done) | (simp; omega))); clear HV hb4; obtain ⟨q0, q1, f0, f1, z⟩ := id T4; obtain ⟨g0, g1, _, _, y⟩ := id F4)
    | (go_at_call 11; refine (HX _ (ht.below hB4)).mono ?_; rintro e w5 ⟨rfl, hb5⟩; have T5 := T4.below hb5; have F5 := F4.below hb5; have hB5 : Below w.heap.size w w5 := hB4.trans (hb5.mono hB4.size); clear HX hb5 q0 q1 f0 f1 z g0 g1 y T4 F4 hB4; obtain ⟨q0, q1, f0, f1, z⟩ := id T5; obtain ⟨g0, g1, _, _, y⟩ := id F5))
  exact bodyPost_ret (v := .tuple #[fr 0 0, .bool false]) (by simp [results, Tryd.results7, go_sem, q0, q1, z]) rfl ⟨rfl, by go_grown⟩
set_option maxRecDepth 100000 in
set_option maxHeartbeats 2000000 in
theorem rp_yes_end_eq (s : ByteArray) (n k d m : Nat) (w : World) (ht : Tab w) (hs' : (s.size : Int) ≤ 281474976710656) (hk : (k : Int) ≤ 11) (hn : (n : Int) ≤ 99999999999) (hm : (m : Int) ≤ 11) (hd : (d : Int) ≤ 99999999999) (h0 : 0 < s.size) (hc : (s[0]'h0).toNat = 45) (t1 : ByteArray) (e1 : s.extract 1 s.size = t1) (H1 : ∀ W, Calls Tryd.prog 20 #[.string t1] W fun e w' => e = .returned (.tuple #[.int .i64 (n : Nat), .int .i64 (k : Nat)]) ∧ w' = W) (p : Nat) (hp : 1 + k = p) (hps : p ≤ s.size) (hq : p = s.size) (hl : p = s.size) (a b : Int) (ea : (-(n : Int)) = a) (eb : 1 = b) (hv : validB a b = true) (hx : txt a b = s) :
    Calls Tryd.prog 7 #[.string s] w fun e w' => e = .returned (.tuple #[fr a b, .bool true]) ∧ Below w.heap.size w w' := by
  have g0 : ((0 : Int) < (s.size : Int)) := by omega
  have hc1 : (((s[0]'h0).toNat : Int) == 45) = true := by simp; omega
  have hc2 : (((s[0]'h0).toNat : Int) = 45) := by omega
  have hp1 : (((1 : Int)) + (k : Int)) = (p : Int) := by omega
  have hps1 : (p : Int) ≤ (s.size : Int) := by omega
  have g1 : ¬ ((p : Int) < (s.size : Int)) := by omega
  have l1 : ((p : Int) != (s.size : Int)) = false := by simp; omega
  have l3 : ((p : Int) == (s.size : Int)) = true := by simp; omega
  have ha : I64 a := by unfold I64; omega
  have hb : I64 b := by unfold I64; omega
  have HV := fun W => rvalid_any a b W ha.1 ha.2 hb.1 hb.2
  rw [hv] at HV
  have HX := fun W h => rtext_any a b W ha hb h
  rw [hx] at HX
  clear hx
  subst ea eb
  clear hv ha hb
  clear hl hp hps hq
  go_enter Tryd.func7, Tryd.ntmps7
  go_wp2_with (first
    | (go_at_call 20; refine (H1 _).mono ?_; rintro e wx ⟨rfl, hw⟩; rw [hw]; clear hw wx H1)
    | (go_at_call 8; refine (HV _).mono ?_; rintro e w4 ⟨rfl, hb4⟩; have T4 := ((Two.new w (.int .i64 0) (.int .i64 0) 23).alloc _).below hb4; have F4 := ((Two.new (w.alloc _) _ _ 23).below hb4).at (k' := w.heap.size + 1) (by simp); have hB4 : Below w.heap.size w w4 := Below.trans (by go_grown) (hb4.mono (by first | (simp; done) | (simp; omega))); clear HV hb4; obtain ⟨q0, q1, f0, f1, z⟩ := id T4; obtain ⟨g0, g1, _, _, y⟩ := id F4)
    | (go_at_call 11; refine (HX _ (ht.below hB4)).mono ?_; rintro e w5 ⟨rfl, hb5⟩; have T5 := T4.below hb5; have F5 := F4.below hb5; have hB5 : Below w.heap.size w w5 := hB4.trans (hb5.mono hB4.size); clear HX hb5 q0 q1 f0 f1 z g0 g1 y T4 F4 hB4; obtain ⟨q0, q1, f0, f1, z⟩ := id T5; obtain ⟨g0, g1, _, _, y⟩ := id F5))
  exact bodyPost_ret (v := .tuple #[fr (-(n : Int)) 1, .bool true]) (by simp [results, Tryd.results7, go_sem, q0, q1, z]) rfl ⟨rfl, by go_grown⟩
set_option maxRecDepth 100000 in
set_option maxHeartbeats 2000000 in
theorem rp_yes_other_len (s : ByteArray) (n k d m : Nat) (w : World) (ht : Tab w) (hs' : (s.size : Int) ≤ 281474976710656) (hk : (k : Int) ≤ 11) (hn : (n : Int) ≤ 99999999999) (hm : (m : Int) ≤ 11) (hd : (d : Int) ≤ 99999999999) (h0 : 0 < s.size) (hc : (s[0]'h0).toNat = 45) (t1 : ByteArray) (e1 : s.extract 1 s.size = t1) (H1 : ∀ W, Calls Tryd.prog 20 #[.string t1] W fun e w' => e = .returned (.tuple #[.int .i64 (n : Nat), .int .i64 (k : Nat)]) ∧ w' = W) (p : Nat) (hp : 1 + k = p) (hps : p ≤ s.size) (hq : p < s.size) (hr : ¬ (s[p]'hq).toNat = 47) (hl : ¬ p = s.size) :
    Calls Tryd.prog 7 #[.string s] w fun e w' => e = .returned (.tuple #[fr 0 0, .bool false]) ∧ Below w.heap.size w w' := by
  have g0 : ((0 : Int) < (s.size : Int)) := by omega
  have hc1 : (((s[0]'h0).toNat : Int) == 45) = true := by simp; omega
  have hc2 : (((s[0]'h0).toNat : Int) = 45) := by omega
  have hp1 : (((1 : Int)) + (k : Int)) = (p : Int) := by omega
  have hps1 : (p : Int) ≤ (s.size : Int) := by omega
  have g1 : ((p : Int) < (s.size : Int)) := by omega
  have hr1 : (((s[p]'hq).toNat : Int) == 47) = false := by simp; omega
  have hr2 : ¬ (((s[p]'hq).toNat : Int) = 47) := by omega
  have l1 : ((p : Int) != (s.size : Int)) = true := by simp; omega
  have l2 : ¬ ((p : Int) = (s.size : Int)) := by omega
  have l3 : ((p : Int) == (s.size : Int)) = false := by simp; omega
  clear hl hp hps
  go_enter Tryd.func7, Tryd.ntmps7
  go_wp2_with (first
    | (go_at_call 20; refine (H1 _).mono ?_; rintro e wx ⟨rfl, hw⟩; rw [hw]; clear hw wx H1))
  exact bodyPost_ret (v := .tuple #[fr 0 0, .bool false]) (by simp [results, Tryd.results7, go_sem]) rfl ⟨rfl, by go_grown⟩
set_option maxRecDepth 100000 in
set_option maxHeartbeats 2000000 in
theorem rp_yes_yes_len (s : ByteArray) (n k d m : Nat) (w : World) (ht : Tab w) (hs' : (s.size : Int) ≤ 281474976710656) (hk : (k : Int) ≤ 11) (hn : (n : Int) ≤ 99999999999) (hm : (m : Int) ≤ 11) (hd : (d : Int) ≤ 99999999999) (h0 : 0 < s.size) (hc : (s[0]'h0).toNat = 45) (t1 : ByteArray) (e1 : s.extract 1 s.size = t1) (H1 : ∀ W, Calls Tryd.prog 20 #[.string t1] W fun e w' => e = .returned (.tuple #[.int .i64 (n : Nat), .int .i64 (k : Nat)]) ∧ w' = W) (p : Nat) (hp : 1 + k = p) (hps : p ≤ s.size) (hq : p < s.size) (hr : (s[p]'hq).toNat = 47) (t2 : ByteArray) (e2 : s.extract (p + 1) s.size = t2) (H2 : ∀ W, Calls Tryd.prog 20 #[.string t2] W fun e w' => e = .returned (.tuple #[.int .i64 (d : Nat), .int .i64 (m : Nat)]) ∧ w' = W) (q : Nat) (hq2 : p + 1 + m = q) (hl : ¬ q = s.size) :
    Calls Tryd.prog 7 #[.string s] w fun e w' => e = .returned (.tuple #[fr 0 0, .bool false]) ∧ Below w.heap.size w w' := by
  have g0 : ((0 : Int) < (s.size : Int)) := by omega
  have hc1 : (((s[0]'h0).toNat : Int) == 45) = true := by simp; omega
  have hc2 : (((s[0]'h0).toNat : Int) = 45) := by omega
  have hp1 : (((1 : Int)) + (k : Int)) = (p : Int) := by omega
  have hps1 : (p : Int) ≤ (s.size : Int) := by omega
  have g1 : ((p : Int) < (s.size : Int)) := by omega
  have hr1 : (((s[p]'hq).toNat : Int) == 47) = true := by simp; omega
  have hr2 : (((s[p]'hq).toNat : Int) = 47) := by omega
  have hq3 : ((p : Int) + 1 + (m : Int)) = (q : Int) := by omega
  have hq4 : (p : Int) + 1 ≤ (s.size : Int) := by omega
  have hq5 : ((p : Int) + 1).toNat = p + 1 := by omega
  have hq6 : (q : Int) ≤ 281474976710756 := by omega
  have l1 : ((q : Int) != (s.size : Int)) = true := by simp; omega
  have l2 : ¬ ((q : Int) = (s.size : Int)) := by omega
  have l3 : ((q : Int) == (s.size : Int)) = false := by simp; omega
  clear hl hp hps hq2
  go_enter Tryd.func7, Tryd.ntmps7
  go_wp2_with (first
    | (go_at_call 20; refine (H1 _).mono ?_; rintro e wx ⟨rfl, hw⟩; rw [hw]; clear hw wx H1)
    | (go_at_call 20; refine (H2 _).mono ?_; rintro e wx ⟨rfl, hw⟩; rw [hw]; clear hw wx))
  exact bodyPost_ret (v := .tuple #[fr 0 0, .bool false]) (by simp [results, Tryd.results7, go_sem]) rfl ⟨rfl, by go_grown⟩
set_option maxRecDepth 100000 in
set_option maxHeartbeats 2000000 in
theorem rp_yes_yes_bad (s : ByteArray) (n k d m : Nat) (w : World) (ht : Tab w) (hs' : (s.size : Int) ≤ 281474976710656) (hk : (k : Int) ≤ 11) (hn : (n : Int) ≤ 99999999999) (hm : (m : Int) ≤ 11) (hd : (d : Int) ≤ 99999999999) (h0 : 0 < s.size) (hc : (s[0]'h0).toNat = 45) (t1 : ByteArray) (e1 : s.extract 1 s.size = t1) (H1 : ∀ W, Calls Tryd.prog 20 #[.string t1] W fun e w' => e = .returned (.tuple #[.int .i64 (n : Nat), .int .i64 (k : Nat)]) ∧ w' = W) (p : Nat) (hp : 1 + k = p) (hps : p ≤ s.size) (hq : p < s.size) (hr : (s[p]'hq).toNat = 47) (t2 : ByteArray) (e2 : s.extract (p + 1) s.size = t2) (H2 : ∀ W, Calls Tryd.prog 20 #[.string t2] W fun e w' => e = .returned (.tuple #[.int .i64 (d : Nat), .int .i64 (m : Nat)]) ∧ w' = W) (q : Nat) (hq2 : p + 1 + m = q) (hl : q = s.size) (a b : Int) (ea : (-(n : Int)) = a) (eb : (d : Int) = b) (hv : validB a b = false) :
    Calls Tryd.prog 7 #[.string s] w fun e w' => e = .returned (.tuple #[fr 0 0, .bool false]) ∧ Below w.heap.size w w' := by
  have g0 : ((0 : Int) < (s.size : Int)) := by omega
  have hc1 : (((s[0]'h0).toNat : Int) == 45) = true := by simp; omega
  have hc2 : (((s[0]'h0).toNat : Int) = 45) := by omega
  have hp1 : (((1 : Int)) + (k : Int)) = (p : Int) := by omega
  have hps1 : (p : Int) ≤ (s.size : Int) := by omega
  have g1 : ((p : Int) < (s.size : Int)) := by omega
  have hr1 : (((s[p]'hq).toNat : Int) == 47) = true := by simp; omega
  have hr2 : (((s[p]'hq).toNat : Int) = 47) := by omega
  have hq3 : ((p : Int) + 1 + (m : Int)) = (q : Int) := by omega
  have hq4 : (p : Int) + 1 ≤ (s.size : Int) := by omega
  have hq5 : ((p : Int) + 1).toNat = p + 1 := by omega
  have hq6 : (q : Int) ≤ 281474976710756 := by omega
  have l1 : ((q : Int) != (s.size : Int)) = false := by simp; omega
  have l3 : ((q : Int) == (s.size : Int)) = true := by simp; omega
  have ha : I64 a := by unfold I64; omega
  have hb : I64 b := by unfold I64; omega
  have HV := fun W => rvalid_any a b W ha.1 ha.2 hb.1 hb.2
  rw [hv] at HV
  subst ea eb
  clear hv ha hb
  clear hl hp hps hq2
  go_enter Tryd.func7, Tryd.ntmps7
  go_wp2_with (first
    | (go_at_call 20; refine (H1 _).mono ?_; rintro e wx ⟨rfl, hw⟩; rw [hw]; clear hw wx H1)
    | (go_at_call 20; refine (H2 _).mono ?_; rintro e wx ⟨rfl, hw⟩; rw [hw]; clear hw wx)
    | (go_at_call 8; refine (HV _).mono ?_; rintro e w4 ⟨rfl, hb4⟩; have T4 := ((Two.new w (.int .i64 0) (.int .i64 0) 23).alloc _).below hb4; have F4 := ((Two.new (w.alloc _) _ _ 23).below hb4).at (k' := w.heap.size + 1) (by simp); have hB4 : Below w.heap.size w w4 := Below.trans (by go_grown) (hb4.mono (by first | (simp; done) | (simp; omega))); clear HV hb4; obtain ⟨q0, q1, f0, f1, z⟩ := id T4; obtain ⟨g0, g1, _, _, y⟩ := id F4))
  exact bodyPost_ret (v := .tuple #[fr 0 0, .bool false]) (by simp [results, Tryd.results7, go_sem, q0, q1, z]) rfl ⟨rfl, by go_grown⟩
set_option maxRecDepth 100000 in
set_option maxHeartbeats 2000000 in
theorem rp_yes_yes_ne (s : ByteArray) (n k d m : Nat) (w : World) (ht : Tab w) (hs' : (s.size : Int) ≤ 281474976710656) (hk : (k : Int) ≤ 11) (hn : (n : Int) ≤ 99999999999) (hm : (m : Int) ≤ 11) (hd : (d : Int) ≤ 99999999999) (h0 : 0 < s.size) (hc : (s[0]'h0).toNat = 45) (t1 : ByteArray) (e1 : s.extract 1 s.size = t1) (H1 : ∀ W, Calls Tryd.prog 20 #[.string t1] W fun e w' => e = .returned (.tuple #[.int .i64 (n : Nat), .int .i64 (k : Nat)]) ∧ w' = W) (p : Nat) (hp : 1 + k = p) (hps : p ≤ s.size) (hq : p < s.size) (hr : (s[p]'hq).toNat = 47) (t2 : ByteArray) (e2 : s.extract (p + 1) s.size = t2) (H2 : ∀ W, Calls Tryd.prog 20 #[.string t2] W fun e w' => e = .returned (.tuple #[.int .i64 (d : Nat), .int .i64 (m : Nat)]) ∧ w' = W) (q : Nat) (hq2 : p + 1 + m = q) (hl : q = s.size) (a b : Int) (ea : (-(n : Int)) = a) (eb : (d : Int) = b) (hv : validB a b = true) (x : ByteArray) (hx : txt a b = x) (hne : ¬ x = s) :
    Calls Tryd.prog 7 #[.string s] w fun e w' => e = .returned (.tuple #[fr 0 0, .bool false]) ∧ Below w.heap.size w w' := by
  have g0 : ((0 : Int) < (s.size : Int)) := by omega
  have hc1 : (((s[0]'h0).toNat : Int) == 45) = true := by simp; omega
  have hc2 : (((s[0]'h0).toNat : Int) = 45) := by omega
  have hp1 : (((1 : Int)) + (k : Int)) = (p : Int) := by omega
  have hps1 : (p : Int) ≤ (s.size : Int) := by omega
  have g1 : ((p : Int) < (s.size : Int)) := by omega
  have hr1 : (((s[p]'hq).toNat : Int) == 47) = true := by simp; omega
  have hr2 : (((s[p]'hq).toNat : Int) = 47) := by omega
  have hq3 : ((p : Int) + 1 + (m : Int)) = (q : Int) := by omega
  have hq4 : (p : Int) + 1 ≤ (s.size : Int) := by omega
  have hq5 : ((p : Int) + 1).toNat = p + 1 := by omega
  have hq6 : (q : Int) ≤ 281474976710756 := by omega
  have l1 : ((q : Int) != (s.size : Int)) = false := by simp; omega
  have l3 : ((q : Int) == (s.size : Int)) = true := by simp; omega
  have ha : I64 a := by unfold I64; omega
  have hb : I64 b := by unfold I64; omega
  have HV := fun W => rvalid_any a b W ha.1 ha.2 hb.1 hb.2
  rw [hv] at HV
  have HX := fun W h => rtext_any a b W ha hb h
  rw [hx] at HX
  have n1 := str_ne hne
  have n2 := str_ne' hne
  clear hx
  subst ea eb
  clear hv ha hb
  clear hl hp hps hq2
  go_enter Tryd.func7, Tryd.ntmps7
  go_wp2_with (first
    | (go_at_call 20; refine (H1 _).mono ?_; rintro e wx ⟨rfl, hw⟩; rw [hw]; clear hw wx H1)
    | (go_at_call 20; refine (H2 _).mono ?_; rintro e wx ⟨rfl, hw⟩; rw [hw]; clear hw wx)
    | (go_at_call 8; refine (HV _).mono ?_; rintro e w4 ⟨rfl, hb4⟩; have T4 := ((Two.new w (.int .i64 0) (.int .i64 0) 23).alloc _).below hb4; have F4 := ((Two.new (w.alloc _) _ _ 23).below hb4).at (k' := w.heap.size + 1) (by simp); have hB4 : Below w.heap.size w w4 := Below.trans (by go_grown) (hb4.mono (by first | (simp; done) | (simp; omega))); clear HV hb4; obtain ⟨q0, q1, f0, f1, z⟩ := id T4; obtain ⟨g0, g1, _, _, y⟩ := id F4)
    | (go_at_call 11; refine (HX _ (ht.below hB4)).mono ?_; rintro e w5 ⟨rfl, hb5⟩; have T5 := T4.below hb5; have F5 := F4.below hb5; have hB5 : Below w.heap.size w w5 := hB4.trans (hb5.mono hB4.size); clear HX hb5 q0 q1 f0 f1 z g0 g1 y T4 F4 hB4; obtain ⟨q0, q1, f0, f1, z⟩ := id T5; obtain ⟨g0, g1, _, _, y⟩ := id F5))
  exact bodyPost_ret (v := .tuple #[fr 0 0, .bool false]) (by simp [results, Tryd.results7, go_sem, q0, q1, z]) rfl ⟨rfl, by go_grown⟩
set_option maxRecDepth 100000 in
set_option maxHeartbeats 2000000 in
theorem rp_yes_yes_eq (s : ByteArray) (n k d m : Nat) (w : World) (ht : Tab w) (hs' : (s.size : Int) ≤ 281474976710656) (hk : (k : Int) ≤ 11) (hn : (n : Int) ≤ 99999999999) (hm : (m : Int) ≤ 11) (hd : (d : Int) ≤ 99999999999) (h0 : 0 < s.size) (hc : (s[0]'h0).toNat = 45) (t1 : ByteArray) (e1 : s.extract 1 s.size = t1) (H1 : ∀ W, Calls Tryd.prog 20 #[.string t1] W fun e w' => e = .returned (.tuple #[.int .i64 (n : Nat), .int .i64 (k : Nat)]) ∧ w' = W) (p : Nat) (hp : 1 + k = p) (hps : p ≤ s.size) (hq : p < s.size) (hr : (s[p]'hq).toNat = 47) (t2 : ByteArray) (e2 : s.extract (p + 1) s.size = t2) (H2 : ∀ W, Calls Tryd.prog 20 #[.string t2] W fun e w' => e = .returned (.tuple #[.int .i64 (d : Nat), .int .i64 (m : Nat)]) ∧ w' = W) (q : Nat) (hq2 : p + 1 + m = q) (hl : q = s.size) (a b : Int) (ea : (-(n : Int)) = a) (eb : (d : Int) = b) (hv : validB a b = true) (hx : txt a b = s) :
    Calls Tryd.prog 7 #[.string s] w fun e w' => e = .returned (.tuple #[fr a b, .bool true]) ∧ Below w.heap.size w w' := by
  have g0 : ((0 : Int) < (s.size : Int)) := by omega
  have hc1 : (((s[0]'h0).toNat : Int) == 45) = true := by simp; omega
  have hc2 : (((s[0]'h0).toNat : Int) = 45) := by omega
  have hp1 : (((1 : Int)) + (k : Int)) = (p : Int) := by omega
  have hps1 : (p : Int) ≤ (s.size : Int) := by omega
  have g1 : ((p : Int) < (s.size : Int)) := by omega
  have hr1 : (((s[p]'hq).toNat : Int) == 47) = true := by simp; omega
  have hr2 : (((s[p]'hq).toNat : Int) = 47) := by omega
  have hq3 : ((p : Int) + 1 + (m : Int)) = (q : Int) := by omega
  have hq4 : (p : Int) + 1 ≤ (s.size : Int) := by omega
  have hq5 : ((p : Int) + 1).toNat = p + 1 := by omega
  have hq6 : (q : Int) ≤ 281474976710756 := by omega
  have l1 : ((q : Int) != (s.size : Int)) = false := by simp; omega
  have l3 : ((q : Int) == (s.size : Int)) = true := by simp; omega
  have ha : I64 a := by unfold I64; omega
  have hb : I64 b := by unfold I64; omega
  have HV := fun W => rvalid_any a b W ha.1 ha.2 hb.1 hb.2
  rw [hv] at HV
  have HX := fun W h => rtext_any a b W ha hb h
  rw [hx] at HX
  clear hx
  subst ea eb
  clear hv ha hb
  clear hl hp hps hq2
  go_enter Tryd.func7, Tryd.ntmps7
  go_wp2_with (first
    | (go_at_call 20; refine (H1 _).mono ?_; rintro e wx ⟨rfl, hw⟩; rw [hw]; clear hw wx H1)
    | (go_at_call 20; refine (H2 _).mono ?_; rintro e wx ⟨rfl, hw⟩; rw [hw]; clear hw wx)
    | (go_at_call 8; refine (HV _).mono ?_; rintro e w4 ⟨rfl, hb4⟩; have T4 := ((Two.new w (.int .i64 0) (.int .i64 0) 23).alloc _).below hb4; have F4 := ((Two.new (w.alloc _) _ _ 23).below hb4).at (k' := w.heap.size + 1) (by simp); have hB4 : Below w.heap.size w w4 := Below.trans (by go_grown) (hb4.mono (by first | (simp; done) | (simp; omega))); clear HV hb4; obtain ⟨q0, q1, f0, f1, z⟩ := id T4; obtain ⟨g0, g1, _, _, y⟩ := id F4)
    | (go_at_call 11; refine (HX _ (ht.below hB4)).mono ?_; rintro e w5 ⟨rfl, hb5⟩; have T5 := T4.below hb5; have F5 := F4.below hb5; have hB5 : Below w.heap.size w w5 := hB4.trans (hb5.mono hB4.size); clear HX hb5 q0 q1 f0 f1 z g0 g1 y T4 F4 hB4; obtain ⟨q0, q1, f0, f1, z⟩ := id T5; obtain ⟨g0, g1, _, _, y⟩ := id F5))
  exact bodyPost_ret (v := .tuple #[fr (-(n : Int)) (d : Int), .bool true]) (by simp [results, Tryd.results7, go_sem, q0, q1, z]) rfl ⟨rfl, by go_grown⟩

end Go.Proofs.YtkdaefaggbmbnaaDoor
