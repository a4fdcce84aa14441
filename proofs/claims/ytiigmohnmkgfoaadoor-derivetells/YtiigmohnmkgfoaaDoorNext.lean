/-
  A fraction's terms, one after another: what begin, next and up return, and the list of all of them in plain words.
-/
import Derived.Test.YtiigmohnmkgfoaaDoorBase
import Derived.WalkLawsBesides
namespace Go.Proofs.YtiigmohnmkgfoaaDoor
open Go.ChangeShapes Go.WideShapes Go.ChangeAt Go.RowKit
set_option linter.unusedVariables false
set_option linter.unusedSimpArgs false

/-- The terms of n over d with the word whether it is the last one. -/
def tmsF : Nat → Int → Int → List (Int × Bool)
  | 0, _, _ => []
  | f + 1, n, d => if d = 0 then [] else (n / d, decide (n % d = 0)) :: tmsF f d (n % d)
def tms (n d : Int) : List (Int × Bool) := tmsF d.toNat n d
theorem tmsF_more : ∀ (f g : Nat) (n d : Int), 0 ≤ d → d.toNat ≤ f → d.toNat ≤ g → tmsF f n d = tmsF g n d
  | 0, 0, _, _, _, _, _ => rfl
  | 0, g + 1, n, d, h0, h1, _ => by
    have : d = 0 := by omega
    subst this
    simp [tmsF]
  | f + 1, 0, n, d, h0, _, h2 => by
    have : d = 0 := by omega
    subst this
    simp [tmsF]
  | f + 1, g + 1, n, d, h0, h1, h2 => by
    by_cases h : d = 0
    · subst h; simp [tmsF]
    · have p : 0 < d := by omega
      have m0 := Int.emod_nonneg n h
      have m1 := Int.emod_lt_of_pos n p
      simp only [tmsF, h, if_false]
      rw [tmsF_more f g d (n % d) m0 (by omega) (by omega)]
theorem tms_zero (n : Int) : tms n 0 = [] := rfl
theorem tms_pos (n : Int) {d : Int} (p : 0 < d) : tms n d = (n / d, decide (n % d = 0)) :: tms d (n % d) := by
  have m0 := Int.emod_nonneg n (by omega : d ≠ 0)
  have m1 := Int.emod_lt_of_pos n p
  obtain ⟨k, hk⟩ : ∃ k, d.toNat = k + 1 := ⟨d.toNat - 1, by omega⟩
  rw [tms, hk, tmsF, if_neg (by omega)]
  rw [tms, tmsF_more k (n % d).toNat d (n % d) m0 (by omega) (Nat.le_refl _)]

/-- From w to w' block b alone has turned, and blocks are new. -/
structure But (b : Nat) (w w' : World) : Prop where
  os : w'.os = w.os
  tape : w'.tape = w.tape
  output : w'.output = w.output
  size : w.heap.size ≤ w'.heap.size
  block : ∀ k, k < w.heap.size → k ≠ b → w'.heap[k]? = w.heap[k]?

theorem begin_any (n d : Int) (w : World) :
    Calls Tryd.prog 68 #[fr n d] w fun e w' => e = .returned (fr n d) ∧ Below w.heap.size w w' := by
  go_enter Tryd.func68, Tryd.ntmps68
  go_wp2
  go_returns
  exact ⟨rfl, by go_grown⟩

abbrev stp (t : Int) (l : Bool) : Value := .agg #[.int .i64 t, .bool l]

theorem next_end (n : Int) (b : Nat) (w : World) (hT : Two w b (.int .i64 n) (.int .i64 0)) :
    Calls Tryd.prog 69 #[.pointer (some ⟨b, 0, none⟩)] w fun e w' => e = .returned (.tuple #[stp 0 false, .bool false]) ∧ Below w.heap.size w w' := by
  obtain ⟨q0, q1, f0, f1, z⟩ := id hT
  go_enter Tryd.func69, Tryd.ntmps69
  go_wp2
  go_returns
  exact ⟨rfl, by go_grown⟩

theorem div_bd (n : Int) {d : Int} (hd : 0 < d) : (0 ≤ n → 0 ≤ n / d ∧ n / d ≤ n) ∧ (n < 0 → n ≤ n / d ∧ n / d < 0) := by
  have e := Int.mul_ediv_add_emod n d
  have m0 := Int.emod_nonneg n (by omega : d ≠ 0)
  have m1 := Int.emod_lt_of_pos n hd
  generalize n / d = q at *
  generalize n % d = r at *
  constructor
  · intro h
    have q0 : 0 ≤ q := by
      rcases Int.lt_or_le q 0 with k | k
      · have : d * q ≤ d * (-1) := Int.mul_le_mul_of_nonneg_left (by omega) (by omega)
        omega
      · exact k
    have : 1 * q ≤ d * q := Int.mul_le_mul_of_nonneg_right (by omega) q0
    omega
  · intro h
    have q0 : q < 0 := by
      rcases Int.lt_or_le q 0 with k | k
      · exact k
      · have := Int.mul_nonneg (by omega : 0 ≤ d) k
        omega
    have : d * (q + 1) ≤ 1 * (q + 1) := Int.mul_le_mul_of_nonpos_right (by omega) (by omega)
    rw [Int.mul_add] at this
    omega
theorem quo_same {n d : Int} (hd : 0 < d) (h : 0 ≤ n ∨ n % d = 0) : n.tdiv d = n / d ∧ n.tmod d = n % d := by
  have k : 0 ≤ n ∨ d ∣ n := h.imp id (fun h => Int.dvd_of_emod_eq_zero h)
  rw [Int.tdiv_eq_ediv, Int.tmod_eq_emod, if_pos k, if_pos k]
  omega
theorem quo_less {n d : Int} (hd : 0 < d) (h1 : n < 0) (h2 : n % d ≠ 0) : n.tdiv d = n / d + 1 ∧ n.tmod d = n % d - d := by
  have k : ¬ (0 ≤ n ∨ d ∣ n) := by
    rintro (h | h)
    · omega
    · exact h2 (Int.emod_eq_zero_of_dvd h)
  rw [Int.tdiv_eq_ediv, Int.tmod_eq_emod, if_neg k, if_neg k, Int.sign_eq_one_of_pos hd]
  omega
theorem Two.store {W : World} {k : Nat} {v0 v1 : Value} (h : Two W k v0 v1) (a b : Value) : Two ((W.setCell ⟨k, 0, none⟩ a).setCell ⟨k, 1, none⟩ b) k a b := by
  obtain ⟨h0, h1, f0, f1, z⟩ := h
  refine ⟨?_, ?_, by simpa using f0, by simpa using f1, by simpa using z⟩
  · rw [World.cell?_setCell_other _ _ _ _ (by simp)]; exact World.cell?_setCell_same _ _ _ h0
  · exact World.cell?_setCell_same _ _ _ ((World.cell?_setCell_other _ _ _ _ (by simp)).trans h1)
theorem Two.far {W : World} {k : Nat} {v0 v1 : Value} (h : Two W k v0 v1) (a : Value) (j o : Nat) (n : j ≠ k) : Two (W.setCell ⟨j, o, none⟩ a) k v0 v1 := by
  obtain ⟨h0, h1, f0, f1, z⟩ := h
  refine ⟨?_, ?_, by simpa using f0, by simpa using f1, by simpa using z⟩
  · rw [World.cell?_setCell_other _ _ _ _ (fun e => n (congrArg Addr.block e))]; exact h0
  · rw [World.cell?_setCell_other _ _ _ _ (fun e => n (congrArg Addr.block e))]; exact h1
theorem But.refl (b : Nat) (w : World) : But b w w := ⟨rfl, rfl, rfl, Nat.le_refl _, fun _ _ _ => rfl⟩
theorem But.alloc {b : Nat} {w w1 : World} (h : But b w w1) (o : Obj) : But b w (w1.alloc o) :=
  ⟨h.os, h.tape, h.output, by have := h.size; simp; omega, fun k hk hn => (Below.heap_alloc _ _ _ (Nat.lt_of_lt_of_le hk h.size)).trans (h.block k hk hn)⟩
theorem But.drewn {b : Nat} {w w1 : World} (h : But b w w1) (n : Nat) : But b w (w1.drewN n) := ⟨h.os, h.tape, h.output, h.size, h.block⟩
theorem But.setOwn {b : Nat} {w w1 : World} (h : But b w w1) (o : Nat) (v : Value) : But b w (w1.setCell ⟨b, o, none⟩ v) :=
  ⟨h.os, h.tape, h.output, by have := h.size; simpa [World.setCell] using this, fun k hk hn => (Below.heap_setCell _ _ _ _ hn).trans (h.block k hk hn)⟩
theorem But.setNew {b : Nat} {w w1 : World} (h : But b w w1) {c : Nat} (hc : w.heap.size ≤ c) (o : Nat) (v : Value) : But b w (w1.setCell ⟨c, o, none⟩ v) :=
  ⟨h.os, h.tape, h.output, by have := h.size; simpa [World.setCell] using this, fun k hk hn => (Below.heap_setCell _ _ _ _ (by show k ≠ c; omega)).trans (h.block k hk hn)⟩

set_option maxRecDepth 100000 in
set_option maxHeartbeats 1000000 in
theorem next_any (n d : Int) (b : Nat) (w : World) (hn : -9223372036854775808 ≤ n) (hn' : n ≤ 9223372036854775807) (hd : 0 < d) (hd' : d ≤ 9223372036854775807) (hT : Two w b (.int .i64 n) (.int .i64 d)) :
    Calls Tryd.prog 69 #[.pointer (some ⟨b, 0, none⟩)] w fun e w' => e = .returned (.tuple #[stp (n / d) (decide (n % d = 0)), .bool true]) ∧ Two w' b (.int .i64 d) (.int .i64 (n % d)) ∧ But b w w' := by
  obtain ⟨q0, q1, f0, f1, z⟩ := id hT
  have hd0 : ¬ d = 0 := by omega
  have dd : decide (d < 0) = false := by simp; omega
  have m0 := Int.emod_nonneg n hd0
  have m1 := Int.emod_lt_of_pos n hd
  have Q := div_bd n hd
  have qb : -9223372036854775808 ≤ n / d ∧ n / d ≤ 9223372036854775807 := by omega
  have hzb : ¬ w.heap.size = b := by omega
  by_cases c1 : n % d = 0
  · obtain ⟨e1, e2⟩ := quo_same hd (.inr c1)
    rw [c1] at e2
    rw [c1, show decide ((0 : Int) = 0) = true from rfl]
    obtain ⟨q, hq⟩ : ∃ q, n / d = q := ⟨_, rfl⟩
    rw [hq] at e1 qb ⊢
    clear m0 m1 Q hq
    go_enter Tryd.func69, Tryd.ntmps69
    go_wp2
    go_quiet (fail)
    go_wp2
    exact bodyPost_ret (v := .tuple #[stp q true, .bool true]) (by simp [results, Tryd.results69, go_sem, z, hzb]) rfl ⟨rfl, Two.far (Two.far (Two.store ((hT.alloc _).drewN _) _ _) _ _ _ (by omega)) _ _ _ (by omega), But.setNew (But.setNew (But.setOwn (But.setOwn (((But.refl b w).alloc _).drewn _) _ _) _ _) (Nat.le_refl _) _ _) (Nat.le_refl _) _ _⟩
  · rw [show decide (n % d = 0) = false by simpa using c1]
    rcases Int.lt_or_le n 0 with c2 | c2
    · obtain ⟨e1, e2⟩ := quo_less hd c2 c1
      obtain ⟨q, hq⟩ : ∃ q, n / d = q := ⟨_, rfl⟩
      obtain ⟨r, hr⟩ : ∃ r, n % d = r := ⟨_, rfl⟩
      rw [hq] at e1 qb Q ⊢
      rw [hr] at e2 c1 m0 m1 ⊢
      clear hq hr
      obtain ⟨q1, hq1⟩ : ∃ q1, q + 1 = q1 := ⟨_, rfl⟩
      obtain ⟨r1, hr1⟩ : ∃ r1, r - d = r1 := ⟨_, rfl⟩
      rw [hq1] at e1
      rw [hr1] at e2
      have k1 : q1 - 1 = q := by omega
      have k2 : r1 + d = r := by omega
      have k3 : (r1 != 0) = true := by simp; omega
      have k4 : decide (r1 < 0) = true := by simp; omega
      have k5 : (r == 0) = false := by simp; omega
      have k6 : -9223372036854775808 ≤ q1 - 1 ∧ q1 - 1 ≤ 9223372036854775807 := by omega
      have k7 : -9223372036854775808 ≤ r1 + d ∧ r1 + d ≤ 9223372036854775807 := by omega
      have k8 : -9223372036854775808 ≤ q1 ∧ q1 ≤ 9223372036854775807 := by omega
      clear Q hq1 hr1 c1 m0 m1
      go_enter Tryd.func69, Tryd.ntmps69
      go_wp2
      go_quiet (fail)
      go_wp2
      go_quiet (fail)
      go_wp2
      exact bodyPost_ret (v := .tuple #[stp q false, .bool true]) (by simp [results, Tryd.results69, go_sem, z, hzb]) rfl ⟨rfl, Two.far (Two.far (Two.store ((hT.alloc _).drewN _) _ _) _ _ _ (by omega)) _ _ _ (by omega), But.setNew (But.setNew (But.setOwn (But.setOwn (((But.refl b w).alloc _).drewn _) _ _) _ _) (Nat.le_refl _) _ _) (Nat.le_refl _) _ _⟩
    · obtain ⟨e1, e2⟩ := quo_same hd (.inl c2)
      obtain ⟨q, hq⟩ : ∃ q, n / d = q := ⟨_, rfl⟩
      obtain ⟨r, hr⟩ : ∃ r, n % d = r := ⟨_, rfl⟩
      rw [hq] at e1 qb Q ⊢
      rw [hr] at e2 c1 m0 m1 ⊢
      clear hq hr
      have k3 : (r != 0) = true := by simp; omega
      have k4 : decide (r < 0) = false := by simp; omega
      have k5 : (r == 0) = false := by simp; omega
      clear Q c1 m0 m1
      go_enter Tryd.func69, Tryd.ntmps69
      go_wp2
      go_quiet (fail)
      go_wp2
      exact bodyPost_ret (v := .tuple #[stp q false, .bool true]) (by simp [results, Tryd.results69, go_sem, z, hzb]) rfl ⟨rfl, Two.far (Two.far (Two.store ((hT.alloc _).drewN _) _ _) _ _ _ (by omega)) _ _ _ (by omega), But.setNew (But.setNew (But.setOwn (But.setOwn (((But.refl b w).alloc _).drewn _) _ _) _ _) (Nat.le_refl _) _ _) (Nat.le_refl _) _ _⟩
end Go.Proofs.YtiigmohnmkgfoaaDoor
