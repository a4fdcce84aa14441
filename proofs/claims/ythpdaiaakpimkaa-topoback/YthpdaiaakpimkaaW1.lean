/-
  Package topo: the walks through the laws TopoFits and TopoTells.
-/
import Derived.Test.YthpdaiaakpimkaaMA
namespace Go.Proofs.Ythpdaiaakpimkaa
open Go.ChangeShapes Go.WideShapes Go.ChangeAt Go.RowKit
set_option linter.unusedVariables false
set_option linter.unusedSimpArgs false

theorem Ft.nd {id : Int} {l : List Int} {t : Int} (h : Ft id l t) : Nd l := by
  intro i hi
  exact (px_at hi).1 ((fit_at hi h.2.1 rfl).1 (h.2.2.2.2 i hi)).2.2
theorem Ft.turn {id : Int} {l : List Int} {t : Int} (h : Ft id l t) : ∃ k : Nat, t = (k : Int) ∧ (k < l.length ∨ k = 0) := by
  refine ⟨t.toNat, ?_, ?_⟩
  · have := h.2.2.1; omega
  · have h1 := h.2.2.1
    have h2 := h.2.2.2.1
    omega
/-- Whose turn it is, the place behind it, and whether there is one. -/
def nxv (l : List Int) (t : Nat) : Int := if l.length = 0 then 0 else l.getD t 0
def nxt (l : List Int) (t : Nat) : Int := if l.length = 0 then (t : Int) else (((t + 1) % l.length : Nat) : Int)
def nxb (l : List Int) : Bool := decide (0 < l.length)
theorem next_any (a : Option Addr) (len cap : Nat) (zs : List Int) (t : Nat) (w : World) (R : Row w a len cap zs) (ht : t < len ∨ t = 0) : Calls Try.prog 18 #[.slice a len cap, .int .i64 (t : Int)] w fun e w' => e = .returned (.tuple #[.int .i64 (nxv zs t), .int .i64 (nxt zs t), .bool (nxb zs)]) ∧ Below w.heap.size w w' := by
  have HS := R.size
  by_cases h0 : len = 0
  · subst h0
    refine (next_none a cap t w).mono ?_
    rintro e w' ⟨rfl, rfl⟩
    refine ⟨?_, Below.refl _ _⟩
    unfold nxv nxt nxb
    rw [if_pos HS, if_pos HS, HS]
    rfl
  · refine (next_some a len cap zs t w R (by omega)).mono ?_
    rintro e w' ⟨rfl, b⟩
    refine ⟨?_, b⟩
    unfold nxv nxt nxb
    rw [if_neg (by omega), if_neg (by omega), HS, show decide (0 < len) = true from by simp; omega]
theorem rnext_any (a : Option Addr) (len cap : Nat) (zs : List Int) (t : Nat) (w : World) (R : Row w a len cap zs) (ht : t < len ∨ t = 0) : Calls Try.prog 19 #[.slice a len cap, .int .i64 (t : Int)] w fun e w' => e = .returned (.tuple #[.int .i64 (nxv zs t), .int .i64 (nxt zs t), .bool (nxb zs)]) ∧ Below w.heap.size w w' := by
  have HS := R.size
  by_cases h0 : len = 0
  · subst h0
    refine (rnext_none a cap t w).mono ?_
    rintro e w' ⟨rfl, rfl⟩
    refine ⟨?_, Below.refl _ _⟩
    unfold nxv nxt nxb
    rw [if_pos HS, if_pos HS, HS]
    rfl
  · refine (rnext_some a len cap zs t w R (by omega)).mono ?_
    rintro e w' ⟨rfl, b⟩
    refine ⟨?_, b⟩
    unfold nxv nxt nxb
    rw [if_neg (by omega), if_neg (by omega), HS, show decide (0 < len) = true from by simp; omega]
set_option maxRecDepth 100000 in
set_option maxHeartbeats 2000000 in
theorem fits_walk (id : Int) (a : Option Addr) (len cap : Nat) (zs : List Int) (t : Int) (w : World) (R : Row w a len cap zs) : Calls Try.prog 3 #[.int .i64 id, .slice a len cap, .int .i64 t] w fun e w' => e = .returned (.bool true) ∧ Below w.heap.size w w' := by
  have K1 := fit_any id a len cap zs t w R
  have K2 := rfit_any id a len cap zs t w R
  generalize ft id zs t = b at *
  clear R
  go_enter Try.func3, Try.ntmps3
  go_wp2_with (first
    | (go_at_call 7; refine K1.mono ?_; clear K1; rintro e w1 ⟨rfl, hw⟩; rw [hw]; clear hw w1)
    | (go_at_call 8; refine K2.mono ?_; clear K2; rintro e w1 ⟨rfl, hw⟩; rw [hw]; clear hw w1)
    | (go_at_call 9; refine (awake_any _).mono ?_; rintro e w1 ⟨rfl, B1⟩))
  go_ret
  exact ⟨rfl, B1⟩
set_option maxRecDepth 100000 in
set_option maxHeartbeats 8000000 in
theorem tells_walk (id : Int) (a : Option Addr) (len cap : Nat) (zs : List Int) (tI v n : Int) (w : World) (R : Row w a len cap zs) : Calls Try.prog 4 #[.int .i64 id, .slice a len cap, .int .i64 tI, .int .i64 v, .int .i64 n] w fun e w' => e = .returned (.bool true) ∧ Below w.heap.size w w' := by
  have K8 := rfit_any id a len cap zs tI w R
  by_cases hf : Ft id zs tI
  · rw [ft_true hf] at K8
    have hl6 : len ≤ 6 := by have := hf.2.1; rw [R.size] at this; exact this
    have hnd := hf.nd
    obtain ⟨t, rfl, ht⟩ := hf.turn
    rw [R.size] at ht
    have RW := R
    have B := Below.refl w.heap.size w
    have K10 : ∀ W, Row W a len cap zs → Calls Try.prog 10 #[.slice a len cap] W fun e w' => ∃ a' c', e = .returned (.slice a' len c') ∧ Row w' a' len c' zs ∧ Below W.heap.size W w' := fun W r => (copied_any a len cap zs W r (by omega)).mono (fun e w' ⟨a', c', h, o, b⟩ => ⟨a', c', h, owns_row o, b⟩)
    obtain ⟨⟨L1, e1⟩, hlk⟩ : ∃ p, lnk id zs v = p := ⟨_, rfl⟩
    obtain ⟨n1, hn1⟩ : ∃ n1, L1.length = n1 := ⟨_, rfl⟩
    have K11 : ∀ W b c, Row W b len c zs → Calls Try.prog 11 #[.int .i64 id, .slice b len c, .int .i64 v] W fun e w' => ∃ a' c', e = .returned (.tuple #[.slice a' n1 c', .int .i64 e1]) ∧ Row w' a' n1 c' L1 ∧ Below W.heap.size W w' := fun W b c r => by have h := link_any id b len c zs v W r (by omega); rw [hlk] at h; dsimp only at h; rw [hn1] at h; exact h
    have K12 : ∀ W, Row W a len cap zs → Calls Try.prog 12 #[.int .i64 id, .slice a len cap, .int .i64 v] W fun e w' => ∃ a' c', e = .returned (.tuple #[.slice a' n1 c', .int .i64 e1]) ∧ Row w' a' n1 c' L1 ∧ Below W.heap.size W w' := fun W r => by have h := rlink_any id a len cap zs v W r (by omega); rw [hlk] at h; dsimp only at h; rw [hn1] at h; exact h
    obtain ⟨hh, hhs⟩ : ∃ p, hs v zs = p := ⟨_, rfl⟩
    have K14 : ∀ W b c, Row W b len c zs → Calls Try.prog 14 #[.slice b len c, .int .i64 v] W fun e w' => e = .returned (.bool hh) ∧ w' = W := fun W b c r => by rw [← hhs]; exact has_any b len c zs v W r
    have K15 : ∀ W, Row W a len cap zs → Calls Try.prog 15 #[.slice a len cap, .int .i64 v] W fun e w' => e = .returned (.bool hh) ∧ w' = W := fun W r => by rw [← hhs]; exact rhas_any a len cap zs v W r
    obtain ⟨⟨L2, t2, e2⟩, hun⟩ : ∃ p, un zs t v = p := ⟨_, rfl⟩
    obtain ⟨n2, hn2⟩ : ∃ n2, L2.length = n2 := ⟨_, rfl⟩
    have K16 : ∀ W b c, Row W b len c zs → Calls Try.prog 16 #[.slice b len c, .int .i64 (t : Int), .int .i64 v] W fun e w' => ∃ a' c', e = .returned (.tuple #[.slice a' n2 c', .int .i64 t2, .int .i64 e2]) ∧ Row w' a' n2 c' L2 ∧ Below W.heap.size W w' := fun W b c r => by have h := unlink_any b len c zs t v W r (by omega) ht; rw [hun] at h; dsimp only at h; rw [hn2] at h; exact h
    have K17 : ∀ W, Row W a len cap zs → Calls Try.prog 17 #[.slice a len cap, .int .i64 (t : Int), .int .i64 v] W fun e w' => ∃ a' c', e = .returned (.tuple #[.slice a' n2 c', .int .i64 t2, .int .i64 e2]) ∧ Row w' a' n2 c' L2 ∧ Below W.heap.size W w' := fun W r => by have h := runlink_any a len cap zs t v W r (by omega) ht; rw [hun] at h; dsimp only at h; rw [hn2] at h; exact h
    obtain ⟨x1, hx1⟩ : ∃ p, nxv zs t = p := ⟨_, rfl⟩
    obtain ⟨x2, hx2⟩ : ∃ p, nxt zs t = p := ⟨_, rfl⟩
    obtain ⟨x3, hx3⟩ : ∃ p, nxb zs = p := ⟨_, rfl⟩
    have K18 : ∀ W b c, Row W b len c zs → Calls Try.prog 18 #[.slice b len c, .int .i64 (t : Int)] W fun e w' => e = .returned (.tuple #[.int .i64 x1, .int .i64 x2, .bool x3]) ∧ Below W.heap.size W w' := fun W b c r => by rw [← hx1, ← hx2, ← hx3]; exact next_any b len c zs t W r ht
    have K19 : ∀ W, Row W a len cap zs → Calls Try.prog 19 #[.slice a len cap, .int .i64 (t : Int)] W fun e w' => e = .returned (.tuple #[.int .i64 x1, .int .i64 x2, .bool x3]) ∧ Below W.heap.size W w' := fun W r => by rw [← hx1, ← hx2, ← hx3]; exact rnext_any a len cap zs t W r ht
    obtain ⟨x4, hwt⟩ : ∃ p, wt zs t v = p := ⟨_, rfl⟩
    have K20 : ∀ W b c, Row W b len c zs → Calls Try.prog 20 #[.slice b len c, .int .i64 (t : Int), .int .i64 v] W fun e w' => e = .returned (.int .i64 x4) ∧ Below W.heap.size W w' := fun W b c r => by rw [← hwt]; exact wait_any b len c zs t v W r (by omega) ht hnd
    have K21 : ∀ W, Row W a len cap zs → Calls Try.prog 21 #[.slice a len cap, .int .i64 (t : Int), .int .i64 v] W fun e w' => e = .returned (.int .i64 x4) ∧ w' = W := fun W r => by rw [← hwt]; exact rwait_any a len cap zs t v W r (by omega) ht
    clear R hf hlk hn1 hhs hun hn2 hx1 hx2 hx3 hwt hnd
    by_cases hn : 500 < n
    · obtain ⟨nn, hnn⟩ : ∃ p, 500 + n % 500 = p := ⟨_, rfl⟩
      obtain ⟨L3, hL3⟩ : ∃ p, tr zs t (tn zs nn) = p := ⟨_, rfl⟩
      obtain ⟨n3, hn3⟩ : ∃ p, tn zs nn = p := ⟨_, rfl⟩
      have K22 : ∀ W b c, Row W b len c zs → Calls Try.prog 22 #[.slice b len c, .int .i64 (t : Int), .int .i64 nn] W fun e w' => ∃ a' c', e = .returned (.slice a' n3 c') ∧ Row w' a' n3 c' L3 ∧ Below W.heap.size W w' := fun W b c r => by rw [← hL3, ← hn3]; exact turns_all b len c zs t nn W r ht
      have K23 : ∀ W, Row W a len cap zs → Calls Try.prog 23 #[.slice a len cap, .int .i64 (t : Int), .int .i64 nn] W fun e w' => ∃ a' c', e = .returned (.slice a' n3 c') ∧ Row w' a' n3 c' L3 ∧ Below W.heap.size W w' := fun W r => by rw [← hL3, ← hn3]; exact rturns_any a len cap zs t nn W r (by omega) ht
      clear hL3 hn3 ht
      go_enter Try.func4, Try.ntmps4
      go_wp2_with (first
        | (go_at_call 8; refine K8.mono ?_; clear K8; rintro e w1 ⟨rfl, hw⟩; rw [hw]; clear hw w1)
        | (go_at_call 10; refine (K10 _ RW).mono ?_; clear K10; rintro e w1 ⟨a1, c1, rfl, RO, b1⟩; replace RW := RW.below b1; replace B := B.trans (b1.mono B.size); clear b1)
        | (go_at_call 11; refine (K11 _ _ _ RO).mono ?_; clear K11; rintro e w2 ⟨a2, c2, rfl, RA, b2⟩; replace RW := RW.below b2; replace RO := RO.below b2; replace B := B.trans (b2.mono B.size); clear b2)
        | (go_at_call 12; refine (K12 _ RW).mono ?_; clear K12; rintro e w3 ⟨a3, c3, rfl, RB, b3⟩; replace RW := RW.below b3; replace RO := RO.below b3; replace RA := RA.below b3; replace B := B.trans (b3.mono B.size); clear b3)
        | (go_at_call 13; refine (same_any a2 n1 c2 a3 c3 L1 _ RA RB).mono ?_; clear RA RB; rintro e w4 ⟨rfl, b4⟩; replace RW := RW.below b4; replace RO := RO.below b4; replace B := B.trans (b4.mono B.size); clear b4)
        | (go_at_call 14; refine (K14 _ _ _ RO).mono ?_; clear K14; rintro e w5 ⟨rfl, hw⟩; rw [hw]; clear hw w5)
        | (go_at_call 15; refine (K15 _ RW).mono ?_; clear K15; rintro e w5 ⟨rfl, hw⟩; rw [hw]; clear hw w5)
        | (go_at_call 16; refine (K16 _ _ _ RO).mono ?_; clear K16; rintro e w6 ⟨a6, c6, rfl, RC, b6⟩; replace RW := RW.below b6; replace RO := RO.below b6; replace B := B.trans (b6.mono B.size); clear b6)
        | (go_at_call 17; refine (K17 _ RW).mono ?_; clear K17; rintro e w7 ⟨a7, c7, rfl, RD, b7⟩; replace RW := RW.below b7; replace RO := RO.below b7; replace RC := RC.below b7; replace B := B.trans (b7.mono B.size); clear b7)
        | (go_at_call 13; refine (same_any a6 n2 c6 a7 c7 L2 _ RC RD).mono ?_; clear RC RD; rintro e w8 ⟨rfl, b8⟩; replace RW := RW.below b8; replace RO := RO.below b8; replace B := B.trans (b8.mono B.size); clear b8)
        | (go_at_call 18; refine (K18 _ _ _ RO).mono ?_; clear K18; rintro e w9 ⟨rfl, b9⟩; replace RW := RW.below b9; replace RO := RO.below b9; replace B := B.trans (b9.mono B.size); clear b9)
        | (go_at_call 19; refine (K19 _ RW).mono ?_; clear K19; rintro e w10 ⟨rfl, b10⟩; replace RW := RW.below b10; replace RO := RO.below b10; replace B := B.trans (b10.mono B.size); clear b10)
        | (go_at_call 20; refine (K20 _ _ _ RO).mono ?_; clear K20; rintro e w11 ⟨rfl, b11⟩; replace RW := RW.below b11; replace RO := RO.below b11; replace B := B.trans (b11.mono B.size); clear b11)
        | (go_at_call 21; refine (K21 _ RW).mono ?_; clear K21; rintro e w12 ⟨rfl, hw⟩; rw [hw]; clear hw w12)
        | (go_at_call 22; refine (K22 _ _ _ RO).mono ?_; clear K22; rintro e w13 ⟨a13, c13, rfl, RE, b13⟩; replace RW := RW.below b13; replace RO := RO.below b13; replace B := B.trans (b13.mono B.size); clear b13)
        | (go_at_call 23; refine (K23 _ RW).mono ?_; clear K23; rintro e w14 ⟨a14, c14, rfl, RG, b14⟩; replace RW := RW.below b14; replace RO := RO.below b14; replace RE := RE.below b14; replace B := B.trans (b14.mono B.size); clear b14)
        | (go_at_call 13; refine (same_any a13 n3 c13 a14 c14 L3 _ RE RG).mono ?_; clear RE RG; rintro e w15 ⟨rfl, b15⟩; replace RW := RW.below b15; replace RO := RO.below b15; replace B := B.trans (b15.mono B.size); clear b15)
        | (go_at_call 13; refine (same_any a1 len c1 a cap zs _ RO RW).mono ?_; clear RO RW; rintro e w16 ⟨rfl, b16⟩; replace B := B.trans (b16.mono B.size); clear b16)
        | (go_at_call 9; refine (awake_any _).mono ?_; rintro e w17 ⟨rfl, b17⟩; replace B := B.trans (b17.mono B.size); clear b17))
      go_ret
      exact ⟨rfl, B⟩
    · obtain ⟨nn, hnn⟩ : ∃ p, n = p := ⟨_, rfl⟩
      subst hnn
      obtain ⟨L3, hL3⟩ : ∃ p, tr zs t (tn zs n) = p := ⟨_, rfl⟩
      obtain ⟨n3, hn3⟩ : ∃ p, tn zs n = p := ⟨_, rfl⟩
      have K22 : ∀ W b c, Row W b len c zs → Calls Try.prog 22 #[.slice b len c, .int .i64 (t : Int), .int .i64 n] W fun e w' => ∃ a' c', e = .returned (.slice a' n3 c') ∧ Row w' a' n3 c' L3 ∧ Below W.heap.size W w' := fun W b c r => by rw [← hL3, ← hn3]; exact turns_all b len c zs t n W r ht
      have K23 : ∀ W, Row W a len cap zs → Calls Try.prog 23 #[.slice a len cap, .int .i64 (t : Int), .int .i64 n] W fun e w' => ∃ a' c', e = .returned (.slice a' n3 c') ∧ Row w' a' n3 c' L3 ∧ Below W.heap.size W w' := fun W r => by rw [← hL3, ← hn3]; exact rturns_any a len cap zs t n W r (by omega) ht
      clear hL3 hn3 ht
      go_enter Try.func4, Try.ntmps4
      go_wp2_with (first
        | (go_at_call 8; refine K8.mono ?_; clear K8; rintro e w1 ⟨rfl, hw⟩; rw [hw]; clear hw w1)
        | (go_at_call 10; refine (K10 _ RW).mono ?_; clear K10; rintro e w1 ⟨a1, c1, rfl, RO, b1⟩; replace RW := RW.below b1; replace B := B.trans (b1.mono B.size); clear b1)
        | (go_at_call 11; refine (K11 _ _ _ RO).mono ?_; clear K11; rintro e w2 ⟨a2, c2, rfl, RA, b2⟩; replace RW := RW.below b2; replace RO := RO.below b2; replace B := B.trans (b2.mono B.size); clear b2)
        | (go_at_call 12; refine (K12 _ RW).mono ?_; clear K12; rintro e w3 ⟨a3, c3, rfl, RB, b3⟩; replace RW := RW.below b3; replace RO := RO.below b3; replace RA := RA.below b3; replace B := B.trans (b3.mono B.size); clear b3)
        | (go_at_call 13; refine (same_any a2 n1 c2 a3 c3 L1 _ RA RB).mono ?_; clear RA RB; rintro e w4 ⟨rfl, b4⟩; replace RW := RW.below b4; replace RO := RO.below b4; replace B := B.trans (b4.mono B.size); clear b4)
        | (go_at_call 14; refine (K14 _ _ _ RO).mono ?_; clear K14; rintro e w5 ⟨rfl, hw⟩; rw [hw]; clear hw w5)
        | (go_at_call 15; refine (K15 _ RW).mono ?_; clear K15; rintro e w5 ⟨rfl, hw⟩; rw [hw]; clear hw w5)
        | (go_at_call 16; refine (K16 _ _ _ RO).mono ?_; clear K16; rintro e w6 ⟨a6, c6, rfl, RC, b6⟩; replace RW := RW.below b6; replace RO := RO.below b6; replace B := B.trans (b6.mono B.size); clear b6)
        | (go_at_call 17; refine (K17 _ RW).mono ?_; clear K17; rintro e w7 ⟨a7, c7, rfl, RD, b7⟩; replace RW := RW.below b7; replace RO := RO.below b7; replace RC := RC.below b7; replace B := B.trans (b7.mono B.size); clear b7)
        | (go_at_call 13; refine (same_any a6 n2 c6 a7 c7 L2 _ RC RD).mono ?_; clear RC RD; rintro e w8 ⟨rfl, b8⟩; replace RW := RW.below b8; replace RO := RO.below b8; replace B := B.trans (b8.mono B.size); clear b8)
        | (go_at_call 18; refine (K18 _ _ _ RO).mono ?_; clear K18; rintro e w9 ⟨rfl, b9⟩; replace RW := RW.below b9; replace RO := RO.below b9; replace B := B.trans (b9.mono B.size); clear b9)
        | (go_at_call 19; refine (K19 _ RW).mono ?_; clear K19; rintro e w10 ⟨rfl, b10⟩; replace RW := RW.below b10; replace RO := RO.below b10; replace B := B.trans (b10.mono B.size); clear b10)
        | (go_at_call 20; refine (K20 _ _ _ RO).mono ?_; clear K20; rintro e w11 ⟨rfl, b11⟩; replace RW := RW.below b11; replace RO := RO.below b11; replace B := B.trans (b11.mono B.size); clear b11)
        | (go_at_call 21; refine (K21 _ RW).mono ?_; clear K21; rintro e w12 ⟨rfl, hw⟩; rw [hw]; clear hw w12)
        | (go_at_call 22; refine (K22 _ _ _ RO).mono ?_; clear K22; rintro e w13 ⟨a13, c13, rfl, RE, b13⟩; replace RW := RW.below b13; replace RO := RO.below b13; replace B := B.trans (b13.mono B.size); clear b13)
        | (go_at_call 23; refine (K23 _ RW).mono ?_; clear K23; rintro e w14 ⟨a14, c14, rfl, RG, b14⟩; replace RW := RW.below b14; replace RO := RO.below b14; replace RE := RE.below b14; replace B := B.trans (b14.mono B.size); clear b14)
        | (go_at_call 13; refine (same_any a13 n3 c13 a14 c14 L3 _ RE RG).mono ?_; clear RE RG; rintro e w15 ⟨rfl, b15⟩; replace RW := RW.below b15; replace RO := RO.below b15; replace B := B.trans (b15.mono B.size); clear b15)
        | (go_at_call 13; refine (same_any a1 len c1 a cap zs _ RO RW).mono ?_; clear RO RW; rintro e w16 ⟨rfl, b16⟩; replace B := B.trans (b16.mono B.size); clear b16)
        | (go_at_call 9; refine (awake_any _).mono ?_; rintro e w17 ⟨rfl, b17⟩; replace B := B.trans (b17.mono B.size); clear b17))
      go_ret
      exact ⟨rfl, B⟩
  · rw [ft_false hf] at K8
    clear R hf
    go_enter Try.func4, Try.ntmps4
    go_wp2_with (first
      | (go_at_call 8; refine K8.mono ?_; clear K8; rintro e w1 ⟨rfl, hw⟩; rw [hw]; clear hw w1)
      | (go_at_call 9; refine (awake_any _).mono ?_; rintro e w1 ⟨rfl, B1⟩))
    go_ret
    exact ⟨rfl, B1⟩
end Go.Proofs.Ythpdaiaakpimkaa
