/-
  DirMerges and DirMakes.
-/
import Derived.Test.YtmbchcpggbfkcaaY1
import Derived.Test.YtmbchcpggbfkcaaQ1
namespace Go.Proofs.Ytmbchcpggbfkcaa
open Go.ChangeShapes Go.WideShapes Go.ChangeAt Go.RowKit Go.Maps Go.Shelf
set_option linter.unusedVariables false
set_option linter.unusedSimpArgs false

theorem same_self (X : List CH) (hX : X.length ≤ 100000) (W : World) (a1 a2 : Option Addr) (c1 c2 : Nat) (L1 : LstC W a1 X.length c1 X) (L2 : LstC W a2 X.length c2 X) : Calls Try.prog 23 #[.slice a1 X.length c1, .slice a2 X.length c2] W fun e w' => e = .returned (.bool true) ∧ Below W.heap.size W w' := by
  have h := same_any a1 a2 X.length X.length c1 c2 X X W (L1.rd (by omega)) (L2.rd (by omega))
  rw [(sameL_iff X X).2 rfl] at h
  exact h
set_option maxRecDepth 100000 in
set_option maxHeartbeats 4000000 in
theorem merges_walk (a : Option Addr) (n cap : Nat) (l : List CH) (a' : Option Addr) (n' cap' : Nat) (m : List CH) (w : World) (hr : RdC w a n cap l) (hl : Hid (∀ x, x ∈ l → (x.nm.size : Int) ≤ 9223372036854775807)) (hr' : RdC w a' n' cap' m) (hm : Hid (∀ x, x ∈ m → (x.nm.size : Int) ≤ 9223372036854775807)) :
    Calls Try.prog 6 #[.slice a n cap, .slice a' n' cap'] w fun e w' => e = .returned (.bool true) ∧ Below w.heap.size w w' := by
  have B := Below.refl w.heap.size w
  have KA := fun W (b : Below w.heap.size w W) => rfits_any a n cap l W (hr.below b) hl.out
  have KB := fun W (b : Below w.heap.size w W) => rfits_any a' n' cap' m W (hr'.below b) hm.out
  cases hfa : fitsB l with
  | false =>
    rw [hfa] at KA
    clear hfa hr hr' KB
    go_enter Try.func6, Try.ntmps6
    go_wp2_with (first
      | (go_at_call 14; refine (KA _ B).mono ?_; clear KA; rintro e W1 ⟨rfl, b1⟩; replace B := B.trans (b1.mono B.size); clear b1)
      | (go_at_call 17; refine (awake_any _).mono ?_; rintro e W9 ⟨rfl, b9⟩; replace B := B.trans (b9.mono B.size); clear b9))
    go_ret
    exact ⟨rfl, B⟩
  | true =>
  rw [hfa] at KA
  cases hfb : fitsB m with
  | false =>
    rw [hfb] at KB
    clear hfa hfb hr hr'
    go_enter Try.func6, Try.ntmps6
    go_wp2_with (first
      | (go_at_call 14; refine (KA _ B).mono ?_; clear KA; rintro e W1 ⟨rfl, b1⟩; replace B := B.trans (b1.mono B.size); clear b1)
      | (go_at_call 14; refine (KB _ B).mono ?_; clear KB; rintro e W1 ⟨rfl, b1⟩; replace B := B.trans (b1.mono B.size); clear b1)
      | (go_at_call 17; refine (awake_any _).mono ?_; rintro e W9 ⟨rfl, b9⟩; replace B := B.trans (b9.mono B.size); clear b9))
    go_ret
    exact ⟨rfl, B⟩
  | true =>
  rw [hfb] at KB
  obtain rfl := hr.size
  obtain rfl := hr'.size
  have h8 := (fitsB_iff.1 hfa).1
  have h8' := (fitsB_iff.1 hfb).1
  have KM := fun W (b : Below w.heap.size w W) => merge_any a l.length cap l a' m.length cap' m W (hr.below b) (hr'.below b) (by omega) (by omega)
  have KR := fun W (b : Below w.heap.size w W) => rmerge_any a cap l a' m.length cap' m W (hr.below b) (hr'.below b) (by omega) (by omega) (fitsB_rise hfa)
  rw [GL_fold _ _ (fitsB_rise hfa) (fitsB_rise hfb)] at KM
  have hlen := mg_len m l
  obtain ⟨X, hX⟩ : ∃ X, m.foldl lrnL l = X := ⟨_, rfl⟩
  rw [hX] at KM KR hlen
  have KS := same_self X (by omega)
  clear hX hlen h8 h8' hfa hfb hr hr'
  go_enter Try.func6, Try.ntmps6
  go_wp2_with (first
      | (go_at_call 14; refine (KA _ B).mono ?_; clear KA; rintro e W1 ⟨rfl, b1⟩; replace B := B.trans (b1.mono B.size); clear b1)
      | (go_at_call 14; refine (KB _ B).mono ?_; clear KB; rintro e W1 ⟨rfl, b1⟩; replace B := B.trans (b1.mono B.size); clear b1)
      | (go_at_call 30; refine (KM _ B).mono ?_; clear KM; rintro e W1 ⟨a1, c1, rfl, L1, o1, b1⟩; replace B := B.trans (b1.mono B.size); clear o1)
      | (go_at_call 31; refine (KR _ B).mono ?_; clear KR; rintro e W2 ⟨a2, c2, rfl, L2, o2, b2⟩; replace L1 := L1.below b2; replace B := B.trans (b2.mono B.size); clear o2)
      | (go_at_call 23; refine (KS _ _ _ _ _ L1 L2).mono ?_; clear KS; rintro e W8 ⟨rfl, b8⟩; replace B := B.trans (b8.mono B.size); clear b8)
      | (go_at_call 17; refine (awake_any _).mono ?_; rintro e W9 ⟨rfl, b9⟩; replace B := B.trans (b9.mono B.size); clear b9))
  go_ret
  exact ⟨rfl, B⟩
set_option maxRecDepth 100000 in
set_option maxHeartbeats 4000000 in
theorem makes_walk (a : Option Addr) (n cap : Nat) (l : List CH) (maker : Int) (name : ByteArray) (kind scale : Int) (w : World) (hr : RdC w a n cap l) (hl : Hid (∀ x, x ∈ l → (x.nm.size : Int) ≤ 9223372036854775807)) (hs : Hid ((name.size : Int) ≤ 9223372036854775807)) : Calls Try.prog 5 #[.slice a n cap, .int .i64 maker, .string name, .int .i64 kind, .int .i64 scale] w fun e w' => e = .returned (.bool true) ∧ Below w.heap.size w w' := by
  have B := Below.refl w.heap.size w
  have KA := fun W (b : Below w.heap.size w W) => rfits_any a n cap l W (hr.below b) hl.out
  cases hfa : fitsB l with
  | false =>
    rw [hfa] at KA
    clear hfa hr
    go_enter Try.func5, Try.ntmps5
    go_wp2_with (first
      | (go_at_call 14; refine (KA _ B).mono ?_; clear KA; rintro e W1 ⟨rfl, b1⟩; replace B := B.trans (b1.mono B.size); clear b1)
      | (go_at_call 17; refine (awake_any _).mono ?_; rintro e W9 ⟨rfl, b9⟩; replace B := B.trans (b9.mono B.size); clear b9))
    go_ret
    exact ⟨rfl, B⟩
  | true =>
  rw [hfa] at KA
  by_cases hm0 : maker < 0
  · clear hfa hr
    go_enter Try.func5, Try.ntmps5
    go_wp2_with (first
      | (go_at_call 14; refine (KA _ B).mono ?_; clear KA; rintro e W1 ⟨rfl, b1⟩; replace B := B.trans (b1.mono B.size); clear b1)
      | (go_at_call 17; refine (awake_any _).mono ?_; rintro e W9 ⟨rfl, b9⟩; replace B := B.trans (b9.mono B.size); clear b9))
    go_ret
    exact ⟨rfl, B⟩
  by_cases hm1 : 16 ≤ maker
  · clear hfa hr
    go_enter Try.func5, Try.ntmps5
    go_wp2_with (first
      | (go_at_call 14; refine (KA _ B).mono ?_; clear KA; rintro e W1 ⟨rfl, b1⟩; replace B := B.trans (b1.mono B.size); clear b1)
      | (go_at_call 17; refine (awake_any _).mono ?_; rintro e W9 ⟨rfl, b9⟩; replace B := B.trans (b9.mono B.size); clear b9))
    go_ret
    exact ⟨rfl, B⟩
  obtain rfl := hr.size
  have h8 := (fitsB_iff.1 hfa).1
  have hri := fitsB_rise hfa
  have hep := fd_ep hfa name
  have K1 := fun W (b : Below w.heap.size w W) => create_any a cap l maker name kind scale W (hr.below b) (by omega) hep
  have K2 := fun W (b : Below w.heap.size w W) => rcreate_any a cap l maker name kind scale W (hr.below b) (by omega) hep hs
  have K3 := fun W (b : Below w.heap.size w W) => delete_any a cap l maker name W (hr.below b) (by omega) hep
  have K4 := fun W (b : Below w.heap.size w W) => rdelete_any a cap l maker name W (hr.below b) (by omega) hep
  rw [cr_same hri] at K1
  rw [dl_same hri] at K3
  have g1 : (if crE l name kind scale = 0 then ptL l (crM l maker name kind scale) else l).length ≤ 100000 := by
    split
    · rw [ptL_ins hri]; have := ins_len l (crM l maker name kind scale); omega
    · omega
  have g2 : (if dlE l name = 0 then ptL l (dlM l maker name) else l).length ≤ 100000 := by
    split
    · rw [ptL_ins hri]; have := ins_len l (dlM l maker name); omega
    · omega
  obtain ⟨X, hX⟩ : ∃ X, (if crE l name kind scale = 0 then ptL l (crM l maker name kind scale) else l) = X := ⟨_, rfl⟩
  obtain ⟨Y, hY⟩ : ∃ Y, (if dlE l name = 0 then ptL l (dlM l maker name) else l) = Y := ⟨_, rfl⟩
  obtain ⟨E, hE⟩ : ∃ E, crE l name kind scale = E := ⟨_, rfl⟩
  obtain ⟨F, hF⟩ : ∃ F, dlE l name = F := ⟨_, rfl⟩
  rw [hX] at K1 K2 g1
  rw [hY] at K3 K4 g2
  rw [hE] at K1 K2
  rw [hF] at K3 K4
  have KS1 := same_self X g1
  have KS2 := same_self Y g2
  have hee : (E != E) = false := by simp
  have hff : (F == F) = true := by simp
  clear hX hY hE hF g1 g2 hep hri h8 hfa hr
  go_enter Try.func5, Try.ntmps5
  go_wp2_with (first
      | (go_at_call 14; refine (KA _ B).mono ?_; clear KA; rintro e W1 ⟨rfl, b1⟩; replace B := B.trans (b1.mono B.size); clear b1)
      | (go_at_call 26; refine (K1 _ B).mono ?_; clear K1; rintro e W1 ⟨a1, c1, rfl, L1, o1, b1⟩; replace B := B.trans (b1.mono B.size); clear o1)
      | (go_at_call 27; refine (K2 _ B).mono ?_; clear K2; rintro e W2 ⟨a2, c2, rfl, L2, o2, b2⟩; replace L1 := L1.below b2; replace B := B.trans (b2.mono B.size); clear o2)
      | (go_at_call 23; refine (KS1 _ _ _ _ _ L1 L2).mono ?_; clear KS1; rintro e W8 ⟨rfl, b8⟩; replace B := B.trans (b8.mono B.size); clear b8)
      | (go_at_call 28; refine (K3 _ B).mono ?_; clear K3; rintro e W3 ⟨a3, c3, rfl, L3, o3, b3⟩; replace B := B.trans (b3.mono B.size); clear o3)
      | (go_at_call 29; refine (K4 _ B).mono ?_; clear K4; rintro e W4 ⟨a4, c4, rfl, L4, o4, b4⟩; replace L3 := L3.below b4; replace B := B.trans (b4.mono B.size); clear o4)
      | (go_at_call 23; refine (KS2 _ _ _ _ _ L3 L4).mono ?_; clear KS2; rintro e W8 ⟨rfl, b8⟩; replace B := B.trans (b8.mono B.size); clear b8)
      | (go_at_call 17; refine (awake_any _).mono ?_; rintro e W9 ⟨rfl, b9⟩; replace B := B.trans (b9.mono B.size); clear b9))
  go_ret
  exact ⟨rfl, B⟩
end Go.Proofs.Ytmbchcpggbfkcaa
