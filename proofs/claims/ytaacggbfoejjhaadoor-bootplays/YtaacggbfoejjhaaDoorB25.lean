/-
  The document's own Next; both side by side.
-/
import Derived.Test.YtaacggbfoejjhaaDoorB23
namespace Go.Proofs.YtaacggbfoejjhaaDoor
open Go.ChangeShapes Go.WideShapes Go.ChangeAt Go.RowKit
open D
set_option linter.unusedVariables false
set_option linter.unusedSimpArgs false

set_option maxRecDepth 10000 in
set_option maxHeartbeats 800000 in
theorem rnext_lt_w0 (r m : Nat) (T T1 : DS) (w : World) (D : DkR w r m T) (x y : Int) (N : Nat) (hN : Hid (x = (N : Int))) (hlt : y < x) (hM : x < 1099511627776) (c0 : Int) (hc0 : (c0 != 0) = true) (KS : Calls Tryd.prog 33 #[.pointer (some ⟨r, 0, none⟩)] w fun e w' => e = .returned (.tuple #[.int .i64 x, .int .i64 y, .int .i64 0]) ∧ Below w.heap.size w w')
    (K1 : ∀ (W : World) (a : Option Addr) (cap : Nat), DkR W r m T → Row .u8 W a 16 cap (recA (N + 1)) → (∀ b o, a = some ⟨b, o, none⟩ → b ≠ r) → Calls Tryd.prog 35 #[.pointer (some ⟨r, 0, none⟩), .int .i64 2, .slice a 16 cap] W fun e w' => e = .returned (.int .i64 c0) ∧ DkR w' r m T1 ∧ Only (at2 r m) W w')  :
    Calls Tryd.prog 30 #[.pointer (some ⟨r, 0, none⟩)] w fun e w' => e = .returned (.tuple #[.int .i64 0, .int .i64 c0]) ∧ DkR w' r m T1 ∧ Only (at2 r m) w w' := by
  have h0M : 0 ≤ x := by have := hN.out; omega
  have KR := fun W => rrecord_ok (N + 1) W (by have := hN.out; simp [fitB]; omega)
  rw [show ((N + 1 : Nat) : Int) = x + 1 by have := hN.out; omega] at KR
  have hrz : Hid (r < w.heap.size) := row_lt D.obj
  have hmz : Hid (m < w.heap.size) := row_lt D.byt
  have hA := recA_byt (N + 1)
  have hB := recB_byt (N + 1)
  have hlA := recA_len (N + 1)
  have hlB := recB_len (N + 1)
  generalize recA (N + 1) = A at *
  generalize recB (N + 1) = B at *
  clear hN
  have K1' := K1
  clear K1
  go_enter Tryd.func30, Tryd.ntmps30
  go_wp2_with (first
    | (go_at_call 33; refine KS.mono ?_; rintro e w1 ⟨rfl, b1⟩)
    | (go_at_call 16; refine (KR w1).mono ?_; rintro e w2 ⟨va, vc, rfl, Oa, Oc, b2⟩; have b12 := b1.trans (b2.mono b1.size); obtain ⟨aa, na, ca, rfl, Ra, hna, _, ga⟩ := Oa.row hA; obtain ⟨ab, nb, cb, rfl, Rb, hnb, _, gb⟩ := Oc.row hB; rw [hlA] at hna; subst hna; rw [hlB] at hnb; subst hnb; have fa : Hid (∀ b o, aa = some ⟨b, o, none⟩ → b ≠ r) := fun b o e => (by have := (ga b o e).1; have := b1.size; have := hrz.out; omega); have fb : Hid (∀ b o, ab = some ⟨b, o, none⟩ → b ≠ r) := fun b o e => (by have := (gb b o e).1; have := b1.size; have := hrz.out; omega); have fm : Hid (∀ b o, ab = some ⟨b, o, none⟩ → b ≠ m) := fun b o e => (by have := (gb b o e).1; have := b1.size; have := hmz.out; omega); clear ga gb Oa Oc)
    | (go_at_call 35; refine (K1' w2 aa ca (D.below b12) Ra fa.out).mono ?_; rintro e w3 ⟨rfl, D3, o3⟩; have Rb3 := Rb.of_block o3.size (fun b o e hb => o3.block b hb (by rintro (h | h); exact fb.out b o e h; exact fm.out b o e h)); clear K1' fa))
  all_goals (go_ret2; exact ⟨rfl, D3, (Only.of_below b12).trans o3⟩)
set_option maxRecDepth 10000 in
set_option maxHeartbeats 800000 in
theorem rnext_lt_w1 (r m : Nat) (T T1 : DS) (w : World) (D : DkR w r m T) (x y : Int) (N : Nat) (hN : Hid (x = (N : Int))) (hlt : y < x) (hM : x < 1099511627776) (c1 : Int) (hc1 : (c1 != 0) = true) (KS : Calls Tryd.prog 33 #[.pointer (some ⟨r, 0, none⟩)] w fun e w' => e = .returned (.tuple #[.int .i64 x, .int .i64 y, .int .i64 0]) ∧ Below w.heap.size w w')
    (K1 : ∀ (W : World) (a : Option Addr) (cap : Nat), DkR W r m T → Row .u8 W a 16 cap (recA (N + 1)) → (∀ b o, a = some ⟨b, o, none⟩ → b ≠ r) → Calls Tryd.prog 35 #[.pointer (some ⟨r, 0, none⟩), .int .i64 2, .slice a 16 cap] W fun e w' => e = .returned (.int .i64 0) ∧ DkR w' r m T1 ∧ Only (at2 r m) W w') (T2 : DS) (K2 : ∀ (W : World) (a : Option Addr) (cap : Nat), DkR W r m T1 → Row .u8 W a 16 cap (recB (N + 1)) → (∀ b o, a = some ⟨b, o, none⟩ → b ≠ r) → Calls Tryd.prog 35 #[.pointer (some ⟨r, 0, none⟩), .int .i64 3, .slice a 16 cap] W fun e w' => e = .returned (.int .i64 c1) ∧ DkR w' r m T2 ∧ Only (at2 r m) W w') :
    Calls Tryd.prog 30 #[.pointer (some ⟨r, 0, none⟩)] w fun e w' => e = .returned (.tuple #[.int .i64 0, .int .i64 c1]) ∧ DkR w' r m T2 ∧ Only (at2 r m) w w' := by
  have h0M : 0 ≤ x := by have := hN.out; omega
  have KR := fun W => rrecord_ok (N + 1) W (by have := hN.out; simp [fitB]; omega)
  rw [show ((N + 1 : Nat) : Int) = x + 1 by have := hN.out; omega] at KR
  have hrz : Hid (r < w.heap.size) := row_lt D.obj
  have hmz : Hid (m < w.heap.size) := row_lt D.byt
  have hA := recA_byt (N + 1)
  have hB := recB_byt (N + 1)
  have hlA := recA_len (N + 1)
  have hlB := recB_len (N + 1)
  generalize recA (N + 1) = A at *
  generalize recB (N + 1) = B at *
  clear hN
  have K1' := K1
  clear K1
  go_enter Tryd.func30, Tryd.ntmps30
  go_wp2_with (first
    | (go_at_call 33; refine KS.mono ?_; rintro e w1 ⟨rfl, b1⟩)
    | (go_at_call 16; refine (KR w1).mono ?_; rintro e w2 ⟨va, vc, rfl, Oa, Oc, b2⟩; have b12 := b1.trans (b2.mono b1.size); obtain ⟨aa, na, ca, rfl, Ra, hna, _, ga⟩ := Oa.row hA; obtain ⟨ab, nb, cb, rfl, Rb, hnb, _, gb⟩ := Oc.row hB; rw [hlA] at hna; subst hna; rw [hlB] at hnb; subst hnb; have fa : Hid (∀ b o, aa = some ⟨b, o, none⟩ → b ≠ r) := fun b o e => (by have := (ga b o e).1; have := b1.size; have := hrz.out; omega); have fb : Hid (∀ b o, ab = some ⟨b, o, none⟩ → b ≠ r) := fun b o e => (by have := (gb b o e).1; have := b1.size; have := hrz.out; omega); have fm : Hid (∀ b o, ab = some ⟨b, o, none⟩ → b ≠ m) := fun b o e => (by have := (gb b o e).1; have := b1.size; have := hmz.out; omega); clear ga gb Oa Oc)
    | (go_at_call 35; refine (K1' w2 aa ca (D.below b12) Ra fa.out).mono ?_; rintro e w3 ⟨rfl, D3, o3⟩; have Rb3 := Rb.of_block o3.size (fun b o e hb => o3.block b hb (by rintro (h | h); exact fb.out b o e h; exact fm.out b o e h)); clear K1' fa)
    | (go_at_call 35; refine (K2 w3 ab cb D3 Rb3 fb.out).mono ?_; rintro e w4 ⟨rfl, D4, o4⟩))
  all_goals (go_ret2; exact ⟨rfl, D4, ((Only.of_below b12).trans o3).trans o4⟩)
set_option maxRecDepth 10000 in
set_option maxHeartbeats 800000 in
theorem rnext_lt_ok (r m : Nat) (T T1 : DS) (w : World) (D : DkR w r m T) (x y : Int) (N : Nat) (hN : Hid (x = (N : Int))) (hlt : y < x) (hM : x < 1099511627776)  (KS : Calls Tryd.prog 33 #[.pointer (some ⟨r, 0, none⟩)] w fun e w' => e = .returned (.tuple #[.int .i64 x, .int .i64 y, .int .i64 0]) ∧ Below w.heap.size w w')
    (K1 : ∀ (W : World) (a : Option Addr) (cap : Nat), DkR W r m T → Row .u8 W a 16 cap (recA (N + 1)) → (∀ b o, a = some ⟨b, o, none⟩ → b ≠ r) → Calls Tryd.prog 35 #[.pointer (some ⟨r, 0, none⟩), .int .i64 2, .slice a 16 cap] W fun e w' => e = .returned (.int .i64 0) ∧ DkR w' r m T1 ∧ Only (at2 r m) W w') (T2 : DS) (K2 : ∀ (W : World) (a : Option Addr) (cap : Nat), DkR W r m T1 → Row .u8 W a 16 cap (recB (N + 1)) → (∀ b o, a = some ⟨b, o, none⟩ → b ≠ r) → Calls Tryd.prog 35 #[.pointer (some ⟨r, 0, none⟩), .int .i64 3, .slice a 16 cap] W fun e w' => e = .returned (.int .i64 0) ∧ DkR w' r m T2 ∧ Only (at2 r m) W w') :
    Calls Tryd.prog 30 #[.pointer (some ⟨r, 0, none⟩)] w fun e w' => e = .returned (.tuple #[.int .i64 (x + 1), .int .i64 0]) ∧ DkR w' r m T2 ∧ Only (at2 r m) w w' := by
  have h0M : 0 ≤ x := by have := hN.out; omega
  have KR := fun W => rrecord_ok (N + 1) W (by have := hN.out; simp [fitB]; omega)
  rw [show ((N + 1 : Nat) : Int) = x + 1 by have := hN.out; omega] at KR
  have hrz : Hid (r < w.heap.size) := row_lt D.obj
  have hmz : Hid (m < w.heap.size) := row_lt D.byt
  have hA := recA_byt (N + 1)
  have hB := recB_byt (N + 1)
  have hlA := recA_len (N + 1)
  have hlB := recB_len (N + 1)
  generalize recA (N + 1) = A at *
  generalize recB (N + 1) = B at *
  clear hN
  have K1' := K1
  clear K1
  go_enter Tryd.func30, Tryd.ntmps30
  go_wp2_with (first
    | (go_at_call 33; refine KS.mono ?_; rintro e w1 ⟨rfl, b1⟩)
    | (go_at_call 16; refine (KR w1).mono ?_; rintro e w2 ⟨va, vc, rfl, Oa, Oc, b2⟩; have b12 := b1.trans (b2.mono b1.size); obtain ⟨aa, na, ca, rfl, Ra, hna, _, ga⟩ := Oa.row hA; obtain ⟨ab, nb, cb, rfl, Rb, hnb, _, gb⟩ := Oc.row hB; rw [hlA] at hna; subst hna; rw [hlB] at hnb; subst hnb; have fa : Hid (∀ b o, aa = some ⟨b, o, none⟩ → b ≠ r) := fun b o e => (by have := (ga b o e).1; have := b1.size; have := hrz.out; omega); have fb : Hid (∀ b o, ab = some ⟨b, o, none⟩ → b ≠ r) := fun b o e => (by have := (gb b o e).1; have := b1.size; have := hrz.out; omega); have fm : Hid (∀ b o, ab = some ⟨b, o, none⟩ → b ≠ m) := fun b o e => (by have := (gb b o e).1; have := b1.size; have := hmz.out; omega); clear ga gb Oa Oc)
    | (go_at_call 35; refine (K1' w2 aa ca (D.below b12) Ra fa.out).mono ?_; rintro e w3 ⟨rfl, D3, o3⟩; have Rb3 := Rb.of_block o3.size (fun b o e hb => o3.block b hb (by rintro (h | h); exact fb.out b o e h; exact fm.out b o e h)); clear K1' fa)
    | (go_at_call 35; refine (K2 w3 ab cb D3 Rb3 fb.out).mono ?_; rintro e w4 ⟨rfl, D4, o4⟩))
  all_goals (go_ret2; exact ⟨rfl, D4, ((Only.of_below b12).trans o3).trans o4⟩)
set_option maxRecDepth 10000 in
set_option maxHeartbeats 800000 in
theorem rnext_gs_w0 (r m : Nat) (T T1 : DS) (w : World) (D : DkR w r m T) (x y : Int) (N : Nat) (hN : Hid (y = (N : Int))) (hlt : x < y) (hM : y < 1099511627776) (c0 : Int) (hc0 : (c0 != 0) = true) (KS : Calls Tryd.prog 33 #[.pointer (some ⟨r, 0, none⟩)] w fun e w' => e = .returned (.tuple #[.int .i64 x, .int .i64 y, .int .i64 0]) ∧ Below w.heap.size w w')
    (K1 : ∀ (W : World) (a : Option Addr) (cap : Nat), DkR W r m T → Row .u8 W a 16 cap (recA (N + 1)) → (∀ b o, a = some ⟨b, o, none⟩ → b ≠ r) → Calls Tryd.prog 35 #[.pointer (some ⟨r, 0, none⟩), .int .i64 0, .slice a 16 cap] W fun e w' => e = .returned (.int .i64 c0) ∧ DkR w' r m T1 ∧ Only (at2 r m) W w')  :
    Calls Tryd.prog 30 #[.pointer (some ⟨r, 0, none⟩)] w fun e w' => e = .returned (.tuple #[.int .i64 0, .int .i64 c0]) ∧ DkR w' r m T1 ∧ Only (at2 r m) w w' := by
  have h0M : 0 ≤ y := by have := hN.out; omega
  have KR := fun W => rrecord_ok (N + 1) W (by have := hN.out; simp [fitB]; omega)
  rw [show ((N + 1 : Nat) : Int) = y + 1 by have := hN.out; omega] at KR
  have hrz : Hid (r < w.heap.size) := row_lt D.obj
  have hmz : Hid (m < w.heap.size) := row_lt D.byt
  have hA := recA_byt (N + 1)
  have hB := recB_byt (N + 1)
  have hlA := recA_len (N + 1)
  have hlB := recB_len (N + 1)
  generalize recA (N + 1) = A at *
  generalize recB (N + 1) = B at *
  clear hN
  have K1' := K1
  clear K1
  go_enter Tryd.func30, Tryd.ntmps30
  go_wp2_with (first
    | (go_at_call 33; refine KS.mono ?_; rintro e w1 ⟨rfl, b1⟩)
    | (go_at_call 16; refine (KR w1).mono ?_; rintro e w2 ⟨va, vc, rfl, Oa, Oc, b2⟩; have b12 := b1.trans (b2.mono b1.size); obtain ⟨aa, na, ca, rfl, Ra, hna, _, ga⟩ := Oa.row hA; obtain ⟨ab, nb, cb, rfl, Rb, hnb, _, gb⟩ := Oc.row hB; rw [hlA] at hna; subst hna; rw [hlB] at hnb; subst hnb; have fa : Hid (∀ b o, aa = some ⟨b, o, none⟩ → b ≠ r) := fun b o e => (by have := (ga b o e).1; have := b1.size; have := hrz.out; omega); have fb : Hid (∀ b o, ab = some ⟨b, o, none⟩ → b ≠ r) := fun b o e => (by have := (gb b o e).1; have := b1.size; have := hrz.out; omega); have fm : Hid (∀ b o, ab = some ⟨b, o, none⟩ → b ≠ m) := fun b o e => (by have := (gb b o e).1; have := b1.size; have := hmz.out; omega); clear ga gb Oa Oc)
    | (go_at_call 35; refine (K1' w2 aa ca (D.below b12) Ra fa.out).mono ?_; rintro e w3 ⟨rfl, D3, o3⟩; have Rb3 := Rb.of_block o3.size (fun b o e hb => o3.block b hb (by rintro (h | h); exact fb.out b o e h; exact fm.out b o e h)); clear K1' fa))
  all_goals (go_ret2; exact ⟨rfl, D3, (Only.of_below b12).trans o3⟩)
set_option maxRecDepth 10000 in
set_option maxHeartbeats 800000 in
theorem rnext_gs_w1 (r m : Nat) (T T1 : DS) (w : World) (D : DkR w r m T) (x y : Int) (N : Nat) (hN : Hid (y = (N : Int))) (hlt : x < y) (hM : y < 1099511627776) (c1 : Int) (hc1 : (c1 != 0) = true) (KS : Calls Tryd.prog 33 #[.pointer (some ⟨r, 0, none⟩)] w fun e w' => e = .returned (.tuple #[.int .i64 x, .int .i64 y, .int .i64 0]) ∧ Below w.heap.size w w')
    (K1 : ∀ (W : World) (a : Option Addr) (cap : Nat), DkR W r m T → Row .u8 W a 16 cap (recA (N + 1)) → (∀ b o, a = some ⟨b, o, none⟩ → b ≠ r) → Calls Tryd.prog 35 #[.pointer (some ⟨r, 0, none⟩), .int .i64 0, .slice a 16 cap] W fun e w' => e = .returned (.int .i64 0) ∧ DkR w' r m T1 ∧ Only (at2 r m) W w') (T2 : DS) (K2 : ∀ (W : World) (a : Option Addr) (cap : Nat), DkR W r m T1 → Row .u8 W a 16 cap (recB (N + 1)) → (∀ b o, a = some ⟨b, o, none⟩ → b ≠ r) → Calls Tryd.prog 35 #[.pointer (some ⟨r, 0, none⟩), .int .i64 1, .slice a 16 cap] W fun e w' => e = .returned (.int .i64 c1) ∧ DkR w' r m T2 ∧ Only (at2 r m) W w') :
    Calls Tryd.prog 30 #[.pointer (some ⟨r, 0, none⟩)] w fun e w' => e = .returned (.tuple #[.int .i64 0, .int .i64 c1]) ∧ DkR w' r m T2 ∧ Only (at2 r m) w w' := by
  have h0M : 0 ≤ y := by have := hN.out; omega
  have KR := fun W => rrecord_ok (N + 1) W (by have := hN.out; simp [fitB]; omega)
  rw [show ((N + 1 : Nat) : Int) = y + 1 by have := hN.out; omega] at KR
  have hrz : Hid (r < w.heap.size) := row_lt D.obj
  have hmz : Hid (m < w.heap.size) := row_lt D.byt
  have hA := recA_byt (N + 1)
  have hB := recB_byt (N + 1)
  have hlA := recA_len (N + 1)
  have hlB := recB_len (N + 1)
  generalize recA (N + 1) = A at *
  generalize recB (N + 1) = B at *
  clear hN
  have K1' := K1
  clear K1
  go_enter Tryd.func30, Tryd.ntmps30
  go_wp2_with (first
    | (go_at_call 33; refine KS.mono ?_; rintro e w1 ⟨rfl, b1⟩)
    | (go_at_call 16; refine (KR w1).mono ?_; rintro e w2 ⟨va, vc, rfl, Oa, Oc, b2⟩; have b12 := b1.trans (b2.mono b1.size); obtain ⟨aa, na, ca, rfl, Ra, hna, _, ga⟩ := Oa.row hA; obtain ⟨ab, nb, cb, rfl, Rb, hnb, _, gb⟩ := Oc.row hB; rw [hlA] at hna; subst hna; rw [hlB] at hnb; subst hnb; have fa : Hid (∀ b o, aa = some ⟨b, o, none⟩ → b ≠ r) := fun b o e => (by have := (ga b o e).1; have := b1.size; have := hrz.out; omega); have fb : Hid (∀ b o, ab = some ⟨b, o, none⟩ → b ≠ r) := fun b o e => (by have := (gb b o e).1; have := b1.size; have := hrz.out; omega); have fm : Hid (∀ b o, ab = some ⟨b, o, none⟩ → b ≠ m) := fun b o e => (by have := (gb b o e).1; have := b1.size; have := hmz.out; omega); clear ga gb Oa Oc)
    | (go_at_call 35; refine (K1' w2 aa ca (D.below b12) Ra fa.out).mono ?_; rintro e w3 ⟨rfl, D3, o3⟩; have Rb3 := Rb.of_block o3.size (fun b o e hb => o3.block b hb (by rintro (h | h); exact fb.out b o e h; exact fm.out b o e h)); clear K1' fa)
    | (go_at_call 35; refine (K2 w3 ab cb D3 Rb3 fb.out).mono ?_; rintro e w4 ⟨rfl, D4, o4⟩))
  all_goals (go_ret2; exact ⟨rfl, D4, ((Only.of_below b12).trans o3).trans o4⟩)
set_option maxRecDepth 10000 in
set_option maxHeartbeats 800000 in
theorem rnext_gs_ok (r m : Nat) (T T1 : DS) (w : World) (D : DkR w r m T) (x y : Int) (N : Nat) (hN : Hid (y = (N : Int))) (hlt : x < y) (hM : y < 1099511627776)  (KS : Calls Tryd.prog 33 #[.pointer (some ⟨r, 0, none⟩)] w fun e w' => e = .returned (.tuple #[.int .i64 x, .int .i64 y, .int .i64 0]) ∧ Below w.heap.size w w')
    (K1 : ∀ (W : World) (a : Option Addr) (cap : Nat), DkR W r m T → Row .u8 W a 16 cap (recA (N + 1)) → (∀ b o, a = some ⟨b, o, none⟩ → b ≠ r) → Calls Tryd.prog 35 #[.pointer (some ⟨r, 0, none⟩), .int .i64 0, .slice a 16 cap] W fun e w' => e = .returned (.int .i64 0) ∧ DkR w' r m T1 ∧ Only (at2 r m) W w') (T2 : DS) (K2 : ∀ (W : World) (a : Option Addr) (cap : Nat), DkR W r m T1 → Row .u8 W a 16 cap (recB (N + 1)) → (∀ b o, a = some ⟨b, o, none⟩ → b ≠ r) → Calls Tryd.prog 35 #[.pointer (some ⟨r, 0, none⟩), .int .i64 1, .slice a 16 cap] W fun e w' => e = .returned (.int .i64 0) ∧ DkR w' r m T2 ∧ Only (at2 r m) W w') :
    Calls Tryd.prog 30 #[.pointer (some ⟨r, 0, none⟩)] w fun e w' => e = .returned (.tuple #[.int .i64 (y + 1), .int .i64 0]) ∧ DkR w' r m T2 ∧ Only (at2 r m) w w' := by
  have h0M : 0 ≤ y := by have := hN.out; omega
  have KR := fun W => rrecord_ok (N + 1) W (by have := hN.out; simp [fitB]; omega)
  rw [show ((N + 1 : Nat) : Int) = y + 1 by have := hN.out; omega] at KR
  have hrz : Hid (r < w.heap.size) := row_lt D.obj
  have hmz : Hid (m < w.heap.size) := row_lt D.byt
  have hA := recA_byt (N + 1)
  have hB := recB_byt (N + 1)
  have hlA := recA_len (N + 1)
  have hlB := recB_len (N + 1)
  generalize recA (N + 1) = A at *
  generalize recB (N + 1) = B at *
  clear hN
  have K1' := K1
  clear K1
  go_enter Tryd.func30, Tryd.ntmps30
  go_wp2_with (first
    | (go_at_call 33; refine KS.mono ?_; rintro e w1 ⟨rfl, b1⟩)
    | (go_at_call 16; refine (KR w1).mono ?_; rintro e w2 ⟨va, vc, rfl, Oa, Oc, b2⟩; have b12 := b1.trans (b2.mono b1.size); obtain ⟨aa, na, ca, rfl, Ra, hna, _, ga⟩ := Oa.row hA; obtain ⟨ab, nb, cb, rfl, Rb, hnb, _, gb⟩ := Oc.row hB; rw [hlA] at hna; subst hna; rw [hlB] at hnb; subst hnb; have fa : Hid (∀ b o, aa = some ⟨b, o, none⟩ → b ≠ r) := fun b o e => (by have := (ga b o e).1; have := b1.size; have := hrz.out; omega); have fb : Hid (∀ b o, ab = some ⟨b, o, none⟩ → b ≠ r) := fun b o e => (by have := (gb b o e).1; have := b1.size; have := hrz.out; omega); have fm : Hid (∀ b o, ab = some ⟨b, o, none⟩ → b ≠ m) := fun b o e => (by have := (gb b o e).1; have := b1.size; have := hmz.out; omega); clear ga gb Oa Oc)
    | (go_at_call 35; refine (K1' w2 aa ca (D.below b12) Ra fa.out).mono ?_; rintro e w3 ⟨rfl, D3, o3⟩; have Rb3 := Rb.of_block o3.size (fun b o e hb => o3.block b hb (by rintro (h | h); exact fb.out b o e h; exact fm.out b o e h)); clear K1' fa)
    | (go_at_call 35; refine (K2 w3 ab cb D3 Rb3 fb.out).mono ?_; rintro e w4 ⟨rfl, D4, o4⟩))
  all_goals (go_ret2; exact ⟨rfl, D4, ((Only.of_below b12).trans o3).trans o4⟩)
set_option maxRecDepth 10000 in
set_option maxHeartbeats 800000 in
theorem rnext_eq_w0 (r m : Nat) (T T1 : DS) (w : World) (D : DkR w r m T) (y : Int) (N : Nat) (hN : Hid (y = (N : Int))) (hM : y < 1099511627776) (c0 : Int) (hc0 : (c0 != 0) = true) (KS : Calls Tryd.prog 33 #[.pointer (some ⟨r, 0, none⟩)] w fun e w' => e = .returned (.tuple #[.int .i64 y, .int .i64 y, .int .i64 0]) ∧ Below w.heap.size w w')
    (K1 : ∀ (W : World) (a : Option Addr) (cap : Nat), DkR W r m T → Row .u8 W a 16 cap (recA (N + 1)) → (∀ b o, a = some ⟨b, o, none⟩ → b ≠ r) → Calls Tryd.prog 35 #[.pointer (some ⟨r, 0, none⟩), .int .i64 0, .slice a 16 cap] W fun e w' => e = .returned (.int .i64 c0) ∧ DkR w' r m T1 ∧ Only (at2 r m) W w')  :
    Calls Tryd.prog 30 #[.pointer (some ⟨r, 0, none⟩)] w fun e w' => e = .returned (.tuple #[.int .i64 0, .int .i64 c0]) ∧ DkR w' r m T1 ∧ Only (at2 r m) w w' := by
  have h0M : 0 ≤ y := by have := hN.out; omega
  have KR := fun W => rrecord_ok (N + 1) W (by have := hN.out; simp [fitB]; omega)
  rw [show ((N + 1 : Nat) : Int) = y + 1 by have := hN.out; omega] at KR
  have hrz : Hid (r < w.heap.size) := row_lt D.obj
  have hmz : Hid (m < w.heap.size) := row_lt D.byt
  have hA := recA_byt (N + 1)
  have hB := recB_byt (N + 1)
  have hlA := recA_len (N + 1)
  have hlB := recB_len (N + 1)
  generalize recA (N + 1) = A at *
  generalize recB (N + 1) = B at *
  clear hN
  have K1' := K1
  clear K1
  go_enter Tryd.func30, Tryd.ntmps30
  go_wp2_with (first
    | (go_at_call 33; refine KS.mono ?_; rintro e w1 ⟨rfl, b1⟩)
    | (go_at_call 16; refine (KR w1).mono ?_; rintro e w2 ⟨va, vc, rfl, Oa, Oc, b2⟩; have b12 := b1.trans (b2.mono b1.size); obtain ⟨aa, na, ca, rfl, Ra, hna, _, ga⟩ := Oa.row hA; obtain ⟨ab, nb, cb, rfl, Rb, hnb, _, gb⟩ := Oc.row hB; rw [hlA] at hna; subst hna; rw [hlB] at hnb; subst hnb; have fa : Hid (∀ b o, aa = some ⟨b, o, none⟩ → b ≠ r) := fun b o e => (by have := (ga b o e).1; have := b1.size; have := hrz.out; omega); have fb : Hid (∀ b o, ab = some ⟨b, o, none⟩ → b ≠ r) := fun b o e => (by have := (gb b o e).1; have := b1.size; have := hrz.out; omega); have fm : Hid (∀ b o, ab = some ⟨b, o, none⟩ → b ≠ m) := fun b o e => (by have := (gb b o e).1; have := b1.size; have := hmz.out; omega); clear ga gb Oa Oc)
    | (go_at_call 35; refine (K1' w2 aa ca (D.below b12) Ra fa.out).mono ?_; rintro e w3 ⟨rfl, D3, o3⟩; have Rb3 := Rb.of_block o3.size (fun b o e hb => o3.block b hb (by rintro (h | h); exact fb.out b o e h; exact fm.out b o e h)); clear K1' fa))
  all_goals (go_ret2; exact ⟨rfl, D3, (Only.of_below b12).trans o3⟩)
set_option maxRecDepth 10000 in
set_option maxHeartbeats 800000 in
theorem rnext_eq_w1 (r m : Nat) (T T1 : DS) (w : World) (D : DkR w r m T) (y : Int) (N : Nat) (hN : Hid (y = (N : Int))) (hM : y < 1099511627776) (c1 : Int) (hc1 : (c1 != 0) = true) (KS : Calls Tryd.prog 33 #[.pointer (some ⟨r, 0, none⟩)] w fun e w' => e = .returned (.tuple #[.int .i64 y, .int .i64 y, .int .i64 0]) ∧ Below w.heap.size w w')
    (K1 : ∀ (W : World) (a : Option Addr) (cap : Nat), DkR W r m T → Row .u8 W a 16 cap (recA (N + 1)) → (∀ b o, a = some ⟨b, o, none⟩ → b ≠ r) → Calls Tryd.prog 35 #[.pointer (some ⟨r, 0, none⟩), .int .i64 0, .slice a 16 cap] W fun e w' => e = .returned (.int .i64 0) ∧ DkR w' r m T1 ∧ Only (at2 r m) W w') (T2 : DS) (K2 : ∀ (W : World) (a : Option Addr) (cap : Nat), DkR W r m T1 → Row .u8 W a 16 cap (recB (N + 1)) → (∀ b o, a = some ⟨b, o, none⟩ → b ≠ r) → Calls Tryd.prog 35 #[.pointer (some ⟨r, 0, none⟩), .int .i64 1, .slice a 16 cap] W fun e w' => e = .returned (.int .i64 c1) ∧ DkR w' r m T2 ∧ Only (at2 r m) W w') :
    Calls Tryd.prog 30 #[.pointer (some ⟨r, 0, none⟩)] w fun e w' => e = .returned (.tuple #[.int .i64 0, .int .i64 c1]) ∧ DkR w' r m T2 ∧ Only (at2 r m) w w' := by
  have h0M : 0 ≤ y := by have := hN.out; omega
  have KR := fun W => rrecord_ok (N + 1) W (by have := hN.out; simp [fitB]; omega)
  rw [show ((N + 1 : Nat) : Int) = y + 1 by have := hN.out; omega] at KR
  have hrz : Hid (r < w.heap.size) := row_lt D.obj
  have hmz : Hid (m < w.heap.size) := row_lt D.byt
  have hA := recA_byt (N + 1)
  have hB := recB_byt (N + 1)
  have hlA := recA_len (N + 1)
  have hlB := recB_len (N + 1)
  generalize recA (N + 1) = A at *
  generalize recB (N + 1) = B at *
  clear hN
  have K1' := K1
  clear K1
  go_enter Tryd.func30, Tryd.ntmps30
  go_wp2_with (first
    | (go_at_call 33; refine KS.mono ?_; rintro e w1 ⟨rfl, b1⟩)
    | (go_at_call 16; refine (KR w1).mono ?_; rintro e w2 ⟨va, vc, rfl, Oa, Oc, b2⟩; have b12 := b1.trans (b2.mono b1.size); obtain ⟨aa, na, ca, rfl, Ra, hna, _, ga⟩ := Oa.row hA; obtain ⟨ab, nb, cb, rfl, Rb, hnb, _, gb⟩ := Oc.row hB; rw [hlA] at hna; subst hna; rw [hlB] at hnb; subst hnb; have fa : Hid (∀ b o, aa = some ⟨b, o, none⟩ → b ≠ r) := fun b o e => (by have := (ga b o e).1; have := b1.size; have := hrz.out; omega); have fb : Hid (∀ b o, ab = some ⟨b, o, none⟩ → b ≠ r) := fun b o e => (by have := (gb b o e).1; have := b1.size; have := hrz.out; omega); have fm : Hid (∀ b o, ab = some ⟨b, o, none⟩ → b ≠ m) := fun b o e => (by have := (gb b o e).1; have := b1.size; have := hmz.out; omega); clear ga gb Oa Oc)
    | (go_at_call 35; refine (K1' w2 aa ca (D.below b12) Ra fa.out).mono ?_; rintro e w3 ⟨rfl, D3, o3⟩; have Rb3 := Rb.of_block o3.size (fun b o e hb => o3.block b hb (by rintro (h | h); exact fb.out b o e h; exact fm.out b o e h)); clear K1' fa)
    | (go_at_call 35; refine (K2 w3 ab cb D3 Rb3 fb.out).mono ?_; rintro e w4 ⟨rfl, D4, o4⟩))
  all_goals (go_ret2; exact ⟨rfl, D4, ((Only.of_below b12).trans o3).trans o4⟩)
set_option maxRecDepth 10000 in
set_option maxHeartbeats 800000 in
theorem rnext_eq_ok (r m : Nat) (T T1 : DS) (w : World) (D : DkR w r m T) (y : Int) (N : Nat) (hN : Hid (y = (N : Int))) (hM : y < 1099511627776)  (KS : Calls Tryd.prog 33 #[.pointer (some ⟨r, 0, none⟩)] w fun e w' => e = .returned (.tuple #[.int .i64 y, .int .i64 y, .int .i64 0]) ∧ Below w.heap.size w w')
    (K1 : ∀ (W : World) (a : Option Addr) (cap : Nat), DkR W r m T → Row .u8 W a 16 cap (recA (N + 1)) → (∀ b o, a = some ⟨b, o, none⟩ → b ≠ r) → Calls Tryd.prog 35 #[.pointer (some ⟨r, 0, none⟩), .int .i64 0, .slice a 16 cap] W fun e w' => e = .returned (.int .i64 0) ∧ DkR w' r m T1 ∧ Only (at2 r m) W w') (T2 : DS) (K2 : ∀ (W : World) (a : Option Addr) (cap : Nat), DkR W r m T1 → Row .u8 W a 16 cap (recB (N + 1)) → (∀ b o, a = some ⟨b, o, none⟩ → b ≠ r) → Calls Tryd.prog 35 #[.pointer (some ⟨r, 0, none⟩), .int .i64 1, .slice a 16 cap] W fun e w' => e = .returned (.int .i64 0) ∧ DkR w' r m T2 ∧ Only (at2 r m) W w') :
    Calls Tryd.prog 30 #[.pointer (some ⟨r, 0, none⟩)] w fun e w' => e = .returned (.tuple #[.int .i64 (y + 1), .int .i64 0]) ∧ DkR w' r m T2 ∧ Only (at2 r m) w w' := by
  have h0M : 0 ≤ y := by have := hN.out; omega
  have KR := fun W => rrecord_ok (N + 1) W (by have := hN.out; simp [fitB]; omega)
  rw [show ((N + 1 : Nat) : Int) = y + 1 by have := hN.out; omega] at KR
  have hrz : Hid (r < w.heap.size) := row_lt D.obj
  have hmz : Hid (m < w.heap.size) := row_lt D.byt
  have hA := recA_byt (N + 1)
  have hB := recB_byt (N + 1)
  have hlA := recA_len (N + 1)
  have hlB := recB_len (N + 1)
  generalize recA (N + 1) = A at *
  generalize recB (N + 1) = B at *
  clear hN
  have K1' := K1
  clear K1
  go_enter Tryd.func30, Tryd.ntmps30
  go_wp2_with (first
    | (go_at_call 33; refine KS.mono ?_; rintro e w1 ⟨rfl, b1⟩)
    | (go_at_call 16; refine (KR w1).mono ?_; rintro e w2 ⟨va, vc, rfl, Oa, Oc, b2⟩; have b12 := b1.trans (b2.mono b1.size); obtain ⟨aa, na, ca, rfl, Ra, hna, _, ga⟩ := Oa.row hA; obtain ⟨ab, nb, cb, rfl, Rb, hnb, _, gb⟩ := Oc.row hB; rw [hlA] at hna; subst hna; rw [hlB] at hnb; subst hnb; have fa : Hid (∀ b o, aa = some ⟨b, o, none⟩ → b ≠ r) := fun b o e => (by have := (ga b o e).1; have := b1.size; have := hrz.out; omega); have fb : Hid (∀ b o, ab = some ⟨b, o, none⟩ → b ≠ r) := fun b o e => (by have := (gb b o e).1; have := b1.size; have := hrz.out; omega); have fm : Hid (∀ b o, ab = some ⟨b, o, none⟩ → b ≠ m) := fun b o e => (by have := (gb b o e).1; have := b1.size; have := hmz.out; omega); clear ga gb Oa Oc)
    | (go_at_call 35; refine (K1' w2 aa ca (D.below b12) Ra fa.out).mono ?_; rintro e w3 ⟨rfl, D3, o3⟩; have Rb3 := Rb.of_block o3.size (fun b o e hb => o3.block b hb (by rintro (h | h); exact fb.out b o e h; exact fm.out b o e h)); clear K1' fa)
    | (go_at_call 35; refine (K2 w3 ab cb D3 Rb3 fb.out).mono ?_; rintro e w4 ⟨rfl, D4, o4⟩))
  all_goals (go_ret2; exact ⟨rfl, D4, ((Only.of_below b12).trans o3).trans o4⟩)
end Go.Proofs.YtaacggbfoejjhaaDoor
