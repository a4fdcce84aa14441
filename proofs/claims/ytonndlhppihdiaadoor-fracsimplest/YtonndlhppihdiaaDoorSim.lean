/-
  The simplest fraction of a range above 0: how it comes about, where it lies, that none is simpler, and that the terms that the program puts together are its own.
-/
import Derived.Test.YtonndlhppihdiaaDoorFold
import Derived.Test.YtonndlhppihdiaaDoorSimple
namespace Go.Proofs.YtonndlhppihdiaaDoor
open Go.ChangeShapes Go.WideShapes Go.ChangeAt Go.RowKit
set_option linter.unusedVariables false
set_option linter.unusedSimpArgs false

/-- n over d is the simplest from ln over ld to hn over hd. -/
def SimF : Nat → Int → Int → Int → Int → Int → Int → Prop
  | 0, _, _, _, _, _, _ => False
  | f + 1, ln, ld, hn, hd, n, d => (-(-ln / ld) * hd ≤ hn ∧ n = -(-ln / ld) ∧ d = 1) ∨ (hn < -(-ln / ld) * hd ∧ ∃ m e, SimF f hd (hn - ln / ld * hd) ld (ln - ln / ld * ld) m e ∧ n = ln / ld * m + e ∧ d = m)
def Sim (ln ld hn hd n d : Int) : Prop := ∃ f, SimF f ln ld hn hd n d
theorem Sim.whole {ln ld hn hd : Int} (c : -(-ln / ld) * hd ≤ hn) : Sim ln ld hn hd (-(-ln / ld)) 1 := ⟨1, Or.inl ⟨c, rfl, rfl⟩⟩
theorem Sim.step {ln ld hn hd n d : Int} (c : hn < -(-ln / ld) * hd) (s : Sim hd (hn - ln / ld * hd) ld (ln - ln / ld * ld) n d) : Sim ln ld hn hd (ln / ld * n + d) n := by
  obtain ⟨f, h⟩ := s
  exact ⟨f + 1, Or.inr ⟨c, n, d, h, rfl, rfl⟩⟩
theorem Sim.ind {M : Int → Int → Int → Int → Int → Int → Prop} (hw : ∀ ln ld hn hd : Int, -(-ln / ld) * hd ≤ hn → M ln ld hn hd (-(-ln / ld)) 1)
    (hs : ∀ ln ld hn hd n d : Int, hn < -(-ln / ld) * hd → Sim hd (hn - ln / ld * hd) ld (ln - ln / ld * ld) n d → M hd (hn - ln / ld * hd) ld (ln - ln / ld * ld) n d → M ln ld hn hd (ln / ld * n + d) n)
    {ln ld hn hd n d : Int} (s : Sim ln ld hn hd n d) : M ln ld hn hd n d := by
  obtain ⟨f, h⟩ := s
  induction f generalizing ln ld hn hd n d with
  | zero => exact (show False from h).elim
  | succ f ih =>
    have h' : (-(-ln / ld) * hd ≤ hn ∧ n = -(-ln / ld) ∧ d = 1) ∨ (hn < -(-ln / ld) * hd ∧ ∃ m e, SimF f hd (hn - ln / ld * hd) ld (ln - ln / ld * ld) m e ∧ n = ln / ld * m + e ∧ d = m) := h
    rcases h' with ⟨c, e1, e2⟩ | ⟨c, m, e, k, e1, e2⟩
    · rw [e1, e2]; exact hw _ _ _ _ c
    · rw [e1, e2]; exact hs _ _ _ _ _ _ c ⟨f, k⟩ (ih k)

theorem up_div (n : Int) {d : Int} (hd : 0 < d) : -(-n / d) = n / d ∧ n % d = 0 ∨ -(-n / d) = n / d + 1 ∧ 0 < n % d := by
  have e1 := Int.mul_ediv_add_emod n d
  have e2 := Int.mul_ediv_add_emod (-n) d
  have a0 := Int.emod_nonneg n (by omega : d ≠ 0)
  have a1 := Int.emod_lt_of_pos n hd
  have b0 := Int.emod_nonneg (-n) (by omega : d ≠ 0)
  have b1 := Int.emod_lt_of_pos (-n) hd
  generalize n / d = q at *
  generalize -n / d = p at *
  generalize n % d = r at *
  generalize -n % d = t at *
  have e3 : d * (q + p) + (r + t) = 0 := by rw [Int.mul_add]; omega
  rcases Int.lt_trichotomy (q + p) 0 with h | h | h
  · have : d * (q + p) ≤ d * (-1) := Int.mul_le_mul_of_nonneg_left (by omega) (by omega)
    rcases Int.lt_or_le (q + p) (-1) with k | k
    · have : d * (q + p) ≤ d * (-2) := Int.mul_le_mul_of_nonneg_left (by omega) (by omega)
      omega
    · have k2 : q + p = -1 := by omega
      rw [k2] at e3
      omega
  · rw [h] at e3
    omega
  · have : d * 1 ≤ d * (q + p) := Int.mul_le_mul_of_nonneg_left (by omega) (by omega)
    omega

/-- What holds where neither end is reached by a whole number. -/
theorem sim_base {ln ld hn hd : Int} (h1 : 0 < ln) (h2 : 0 < ld) (h3 : 0 < hn) (h4 : 0 < hd) (h5 : ln * hd ≤ hn * ld) (c : hn < -(-ln / ld) * hd) :
    0 ≤ ln / ld ∧ ln - ln / ld * ld = ln % ld ∧ 0 < ln % ld ∧ ln % ld < ld ∧ hn / hd = ln / ld ∧ hn - ln / ld * hd = hn % hd ∧ 0 < hn % hd ∧ hn % hd < hd ∧ hd * (ln % ld) ≤ ld * (hn % hd) := by
  have e1 := Int.mul_ediv_add_emod ln ld
  have m1 := Int.emod_lt_of_pos ln h2
  have m0 := Int.emod_nonneg ln (by omega : ld ≠ 0)
  have w0 : 0 ≤ ln / ld := Int.ediv_nonneg (by omega) (by omega)
  have U := up_div ln h2
  generalize -(-ln / ld) = cc at *
  generalize hw : ln / ld = w at *
  generalize ln % ld = r at *
  rw [Int.mul_comm] at e1
  have hr : 0 < r := by
    rcases U with ⟨u1, u2⟩ | ⟨u1, u2⟩
    · subst u1 u2
      have k : hn * ld < cc * hd * ld := Int.mul_lt_mul_of_pos_right c h2
      have k2 : cc * hd * ld = ln * hd := by rw [Int.mul_assoc, Int.mul_comm hd ld, ← Int.mul_assoc]; rw [show cc * ld = ln by omega]
      omega
    · exact u2
  have hc : cc = w + 1 := by omega
  rw [hc, Int.add_mul] at c
  have lo : w * hd < hn := by
    have k : w * ld * hd < ln * hd := Int.mul_lt_mul_of_pos_right (by omega) h4
    have k2 : w * hd * ld < hn * ld := by rw [Int.mul_assoc, Int.mul_comm hd ld, ← Int.mul_assoc]; omega
    exact Int.lt_of_mul_lt_mul_right k2 (by omega)
  obtain ⟨hv, hm⟩ : hn / hd = w ∧ hn % hd = hn - w * hd := (Int.ediv_emod_unique h4).2 ⟨by rw [Int.mul_comm hd w]; omega, by omega, by omega⟩
  rw [hm]
  refine ⟨w0, by omega, hr, m1, hv, rfl, by omega, by omega, ?_⟩
  have hrr : r = ln - w * ld := by omega
  rw [hrr, Int.mul_sub, Int.mul_sub, Int.mul_comm hd ln, Int.mul_comm ld hn, Int.mul_comm hd (w * ld), Int.mul_comm ld (w * hd), Int.mul_assoc, Int.mul_assoc, Int.mul_comm ld hd]
  omega

/-- Where there is a range there is a simplest. -/
theorem sim_is : ∀ (f : Nat) (ln ld hn hd : Int), ld.toNat + hd.toNat ≤ f → 0 < ln → 0 < ld → 0 < hn → 0 < hd → ln * hd ≤ hn * ld → ∃ n d, Sim ln ld hn hd n d
  | 0, ln, ld, hn, hd, hf, h1, h2, h3, h4, h5 => by omega
  | f + 1, ln, ld, hn, hd, hf, h1, h2, h3, h4, h5 => by
    by_cases c : -(-ln / ld) * hd ≤ hn
    · exact ⟨_, _, .whole c⟩
    · have c' : hn < -(-ln / ld) * hd := by omega
      obtain ⟨b0, b1, b2, b3, b4, b5, b6, b7, b8⟩ := sim_base h1 h2 h3 h4 h5 c'
      obtain ⟨n, d, s⟩ := sim_is f hd (hn % hd) ld (ln % ld) (by omega) h4 b6 h2 b2 b8
      exact ⟨_, _, .step c' (by rw [b1, b5]; exact s)⟩

/-- Where it lies, and its parts. -/
theorem sim_in {ln ld hn hd n d : Int} (s : Sim ln ld hn hd n d) : 0 < ln → 0 < ld → 0 < hn → 0 < hd → ln * hd ≤ hn * ld →
    (0 < n ∧ n ≤ ln ∧ n ≤ hn) ∧ (0 < d ∧ d ≤ ld ∧ d ≤ hd) ∧ mkG n d = 1 ∧ ln * d ≤ n * ld ∧ n * hd ≤ hn * d := by
  refine Sim.ind (M := fun ln ld hn hd n d => 0 < ln → 0 < ld → 0 < hn → 0 < hd → ln * hd ≤ hn * ld → (0 < n ∧ n ≤ ln ∧ n ≤ hn) ∧ (0 < d ∧ d ≤ ld ∧ d ≤ hd) ∧ mkG n d = 1 ∧ ln * d ≤ n * ld ∧ n * hd ≤ hn * d) ?_ ?_ s
  · clear s
    intro ln ld hn hd c
    intro h1 h2 h3 h4 h5
    have e1 := Int.mul_ediv_add_emod ln ld
    have m1 := Int.emod_lt_of_pos ln h2
    have m0 := Int.emod_nonneg ln (by omega : ld ≠ 0)
    have w0 : 0 ≤ ln / ld := Int.ediv_nonneg (by omega) (by omega)
    have U := up_div ln h2
    generalize -(-ln / ld) = cc at *
    generalize ln / ld = w at *
    generalize ln % ld = r at *
    rw [Int.mul_comm] at e1
    have k1 : w * 1 ≤ w * ld := Int.mul_le_mul_of_nonneg_left (by omega) w0
    have hcl : ln ≤ cc * ld := by
      rcases U with ⟨u1, u2⟩ | ⟨u1, u2⟩
      · subst u1; omega
      · rw [u1, Int.add_mul]; omega
    have hcp : 0 < cc := by
      rcases U with ⟨u1, u2⟩ | ⟨u1, u2⟩
      · have : w ≠ 0 := fun e => by subst e; simp at e1; omega
        omega
      · omega
    have hcn : cc ≤ ln := by omega
    have k2 : cc * 1 ≤ cc * hd := Int.mul_le_mul_of_nonneg_left (by omega) (by omega)
    refine ⟨⟨hcp, hcn, by omega⟩, ⟨by omega, by omega, by omega⟩, by simp [mkG, sz], by omega, by omega⟩
  · clear s
    intro ln ld hn hd n d c s ih
    intro h1 h2 h3 h4 h5
    obtain ⟨b0, b1, b2, b3, b4, b5, b6, b7, b8⟩ := sim_base h1 h2 h3 h4 h5 c
    rw [b1, b5] at ih
    obtain ⟨⟨n1, n2, n3⟩, ⟨d1, d2, d3⟩, g, r1, r2⟩ := ih h4 b6 h2 b2 b8
    generalize ln / ld = w at *
    generalize ln % ld = r at *
    generalize hn % hd = t at *
    have x1 : w * n ≤ w * ld := Int.mul_le_mul_of_nonneg_left n3 b0
    have x2 : w * n ≤ w * hd := Int.mul_le_mul_of_nonneg_left n2 b0
    have x0 : 0 ≤ w * n := Int.mul_nonneg b0 (by omega)
    refine ⟨⟨by omega, by omega, by omega⟩, ⟨n1, n3, n2⟩, by rw [g_step]; exact g, ?_, ?_⟩
    · have e1 : ln = w * ld + r := by omega
      have e2 : ln * n = w * ld * n + r * n := by rw [e1, Int.add_mul]
      have e3 : (w * n + d) * ld = w * ld * n + d * ld := by grind
      rw [e2, e3]
      have : n * r = r * n := Int.mul_comm _ _
      have : ld * d = d * ld := Int.mul_comm _ _
      omega
    · have e1 : hn = w * hd + t := by omega
      have e2 : hn * n = w * hd * n + t * n := by rw [e1, Int.add_mul]
      have e3 : (w * n + d) * hd = w * hd * n + d * hd := by grind
      rw [e2, e3]
      have : n * t = t * n := Int.mul_comm _ _
      have : hd * d = d * hd := Int.mul_comm _ _
      omega

/-- None of the range is simpler. -/
theorem sim_least {ln ld hn hd n d : Int} (s : Sim ln ld hn hd n d) : 0 < ln → 0 < ld → 0 < hn → 0 < hd → ln * hd ≤ hn * ld →
    ∀ p q : Int, 0 < p → 0 < q → ln * q ≤ p * ld → p * hd ≤ hn * q → n ≤ p ∧ d ≤ q := by
  refine Sim.ind (M := fun ln ld hn hd n d => 0 < ln → 0 < ld → 0 < hn → 0 < hd → ln * hd ≤ hn * ld → ∀ p q : Int, 0 < p → 0 < q → ln * q ≤ p * ld → p * hd ≤ hn * q → n ≤ p ∧ d ≤ q) ?_ ?_ s
  · clear s
    intro ln ld hn hd c
    intro h1 h2 h3 h4 h5 p q hp hq r1 r2
    refine ⟨?_, by omega⟩
    have k : ln * 1 ≤ ln * q := Int.mul_le_mul_of_nonneg_left (by omega) (by omega)
    have e1 := Int.mul_ediv_add_emod ln ld
    have m0 := Int.emod_nonneg ln (by omega : ld ≠ 0)
    have U := up_div ln h2
    generalize -(-ln / ld) = cc at *
    generalize ln / ld = w at *
    generalize ln % ld = r at *
    rw [Int.mul_comm] at e1
    rcases U with ⟨u1, u2⟩ | ⟨u1, u2⟩
    · subst u1
      exact Int.le_of_mul_le_mul_right (by omega : cc * ld ≤ p * ld) h2
    · have : w < p := Int.lt_of_mul_lt_mul_right (by omega : w * ld < p * ld) (by omega)
      omega
  · clear s
    intro ln ld hn hd n d c s ih
    intro h1 h2 h3 h4 h5 p q hp hq r1 r2
    obtain ⟨b0, b1, b2, b3, b4, b5, b6, b7, b8⟩ := sim_base h1 h2 h3 h4 h5 c
    rw [b1, b5] at ih
    generalize ln / ld = w at *
    generalize ln % ld = r at *
    generalize hn % hd = t at *
    have e1 : ln = w * ld + r := by omega
    have e2 : hn = w * hd + t := by omega
    have hlo : 0 < p - w * q := by
      have k1 : ln * q = w * q * ld + r * q := by rw [e1]; grind
      have k2 : 0 < r * q := Int.mul_pos b2 hq
      have k3 : w * q * ld < p * ld := by omega
      have := Int.lt_of_mul_lt_mul_right k3 (by omega)
      omega
    have k := ih h4 b6 h2 b2 b8 q (p - w * q) hq hlo (by
      have k1 : hn * q = w * q * hd + t * q := by rw [e2]; grind
      have k2 : hd * (p - w * q) = p * hd - w * q * hd := by grind
      rw [k2, Int.mul_comm q t]
      omega) (by
      have k1 : ln * q = w * q * ld + r * q := by rw [e1]; grind
      have k2 : ld * (p - w * q) = p * ld - w * q * ld := by grind
      rw [k2, Int.mul_comm q r]
      omega)
    have x2 : w * n ≤ w * q := Int.mul_le_mul_of_nonneg_left k.1 b0
    exact ⟨by omega, k.1⟩

theorem both_pos {an ad bn bd : Int} (h1 : 0 < ad) (h2 : 0 < bd) : both an ad bn bd = ((an / ad, decide (an % ad = 0)), (bn / bd, decide (bn % bd = 0))) :: both ad (an % ad) bd (bn % bd) := by
  unfold both
  rw [tms_pos an h1, tms_pos bn h2, List.zip_cons_cons]
theorem smp_cons (p : (Int × Bool) × (Int × Bool)) (r : List ((Int × Bool) × (Int × Bool))) : smp (p :: r) = if p.1.1 < p.2.1 then [upV p.1] else if p.2.1 < p.1.1 then [upV p.2] else p.1.1 :: smp r := rfl
theorem up_is (n : Int) {d : Int} (hd : 0 < d) : upV (n / d, decide (n % d = 0)) = -(-n / d) := by
  rcases up_div n hd with ⟨u1, u2⟩ | ⟨u1, u2⟩
  · simp [upV, u2, u1]
  · have : ¬ n % d = 0 := by omega
    simp [upV, this, u1]
theorem from_one {c : Int} (h : 0 < c) (h' : c ≤ 2147483647) : fromL [c] = (c, 1, 0) := by
  have S := mk_self (n := c) (d := 1) (valid_of (by unfold Sm; omega) (by omega) (by omega) (by simp [mkG, sz]))
  rw [fromL, S.1, S.2.1, S.2.2]

/-- The terms that the program puts together are the simplest's. -/
theorem sim_terms {ln ld hn hd n d : Int} (s : Sim ln ld hn hd n d) : 0 < ln → 0 < ld → 0 < hn → 0 < hd → ln * hd ≤ hn * ld → ln ≤ 2147483647 → ld ≤ 2147483647 → hn ≤ 2147483647 → hd ≤ 2147483647 →
    (smp (both ln ld hn hd) ≠ [] ∧ fromL (smp (both ln ld hn hd)) = (n, d, 0)) ∧ (smp (both hn hd ln ld) ≠ [] ∧ fromL (smp (both hn hd ln ld)) = (n, d, 0)) := by
  refine Sim.ind (M := fun ln ld hn hd n d => 0 < ln → 0 < ld → 0 < hn → 0 < hd → ln * hd ≤ hn * ld → ln ≤ 2147483647 → ld ≤ 2147483647 → hn ≤ 2147483647 → hd ≤ 2147483647 → (smp (both ln ld hn hd) ≠ [] ∧ fromL (smp (both ln ld hn hd)) = (n, d, 0)) ∧ (smp (both hn hd ln ld) ≠ [] ∧ fromL (smp (both hn hd ln ld)) = (n, d, 0))) ?_ ?_ s
  · clear s
    intro ln ld hn hd c
    intro h1 h2 h3 h4 h5 l1 l2 l3 l4
    have I := sim_in (.whole c) h1 h2 h3 h4 h5
    obtain ⟨⟨i1, i2, i3⟩, _⟩ := I
    have F := from_one i1 (by omega)
    rw [both_pos h2 h4, both_pos h4 h2, smp_cons, smp_cons]
    simp only
    rw [up_is ln h2, up_is hn h4]
    have hv : ln / ld ≤ hn / hd := by
      rw [Int.le_ediv_iff_mul_le h4]
      have e1 := Int.mul_ediv_add_emod ln ld
      have m0 := Int.emod_nonneg ln (by omega : ld ≠ 0)
      generalize ln / ld = w at *
      rw [Int.mul_comm] at e1
      have k : w * ld * hd ≤ ln * hd := Int.mul_le_mul_of_nonneg_right (by omega) (by omega)
      have k2 : w * hd * ld ≤ hn * ld := by rw [Int.mul_assoc, Int.mul_comm hd ld, ← Int.mul_assoc]; omega
      exact Int.le_of_mul_le_mul_right k2 h2
    by_cases e : ln / ld < hn / hd
    · rw [if_pos e, if_neg (by omega), if_pos e]
      exact ⟨⟨by simp, F⟩, by simp, F⟩
    · have e' : hn / hd = ln / ld := by omega
      have hcv : -(-ln / ld) ≤ hn / hd := (Int.le_ediv_iff_mul_le h4).2 c
      have hz : ln % ld = 0 ∧ -(-ln / ld) = ln / ld := by
        rcases up_div ln h2 with ⟨u1, u2⟩ | ⟨u1, u2⟩
        · exact ⟨u2, u1⟩
        · omega
      have z1 : both ld (ln % ld) hd (hn % hd) = [] := by rw [hz.1]; rfl
      have z2 : both hd (hn % hd) ld (ln % ld) = [] := by rw [hz.1]; unfold both; rw [tms_zero, List.zip_nil_right]
      rw [e', z1, z2]
      simp only [Int.lt_irrefl, if_false]
      rw [show smp [] = [] from rfl, ← hz.2]
      exact ⟨⟨by simp, F⟩, by simp, F⟩
  · clear s
    intro ln ld hn hd n d c s ih
    intro h1 h2 h3 h4 h5 l1 l2 l3 l4
    obtain ⟨b0, b1, b2, b3, b4, b5, b6, b7, b8⟩ := sim_base h1 h2 h3 h4 h5 c
    have I := sim_in (.step c s) h1 h2 h3 h4 h5
    rw [b1, b5] at ih s
    have J := sim_in s h4 b6 h2 b2 b8
    obtain ⟨⟨f1, f2⟩, f3, f4⟩ := ih h4 b6 h2 b2 b8 l4 (by omega) l2 (by omega)
    obtain ⟨⟨n1, n2, n3⟩, ⟨d1, d2, d3⟩, g, r1, r2⟩ := J
    have hdn : d ≤ n := by
      have k1 : n * (hn % hd) ≤ n * hd := Int.mul_le_mul_of_nonneg_left (by omega) (by omega)
      have k2 : d * hd ≤ n * hd := by rw [Int.mul_comm d hd]; omega
      exact Int.le_of_mul_le_mul_right k2 h4
    have key : ∀ l, l ≠ [] → fromL l = (n, d, 0) → fromL (ln / ld :: l) = (ln / ld * n + d, n, 0) := by
      intro l hl hf
      obtain ⟨y, r, rfl⟩ : ∃ y r, l = y :: r := List.exists_cons_of_ne_nil hl
      have S := mk_self (n := ln / ld * n + d) (d := n) (valid_of (by unfold Sm; omega) n1 (by omega) I.2.2.1)
      rw [fromL_two, hf, if_pos rfl, on_eq d1 hdn g, S.1, S.2.1, S.2.2]
    rw [both_pos h2 h4, both_pos h4 h2, smp_cons, smp_cons]
    simp only
    rw [b4]
    simp only [Int.lt_irrefl, if_false]
    exact ⟨⟨by simp, key _ f3 f4⟩, by simp, key _ f1 f2⟩

theorem smp_ge : ∀ l : List ((Int × Bool) × (Int × Bool)), (∀ p ∈ l, 1 ≤ p.1.1 ∧ 1 ≤ p.2.1) → ∀ x ∈ smp l, 1 ≤ x
  | [], _, x, hx => by simp [smp] at hx
  | p :: r, h, x, hx => by
    have hp := h p (by simp)
    rw [smp_cons] at hx
    split at hx
    · simp [upV] at hx; split at hx <;> omega
    · split at hx
      · simp [upV] at hx; split at hx <;> omega
      · rcases List.mem_cons.1 hx with rfl | hx
        · omega
        · exact smp_ge r (fun q hq => h q (by simp [hq])) x hx

theorem sim_from {ln ld hn hd n d : Int} (s : Sim ln ld hn hd n d) (h1 : 0 < ln) (h2 : 0 < ld) (h3 : 0 < hn) (h4 : 0 < hd) (h5 : ln * hd ≤ hn * ld) (l1 : ln ≤ 2147483647) (l2 : ld ≤ 2147483647) (l3 : hn ≤ 2147483647) (l4 : hd ≤ 2147483647) :
    fromA (smp (both ln ld hn hd)) = (n, d, 0) := by
  obtain ⟨⟨f1, f2⟩, _⟩ := sim_terms s h1 h2 h3 h4 h5 l1 l2 l3 l4
  have hb : badT (smp (both ln ld hn hd)) = false := by
    unfold badT
    rw [List.any_eq_false]
    intro x hx
    rw [both_pos h2 h4, smp_cons] at hx
    split at hx
    · simp at hx
    · split at hx
      · simp at hx
      · rw [List.drop_one, List.tail_cons] at hx
        have m0 := Int.emod_nonneg ln (by omega : ld ≠ 0)
        have m1 := Int.emod_lt_of_pos ln h2
        have q0 := Int.emod_nonneg hn (by omega : hd ≠ 0)
        have q1 := Int.emod_lt_of_pos hn h4
        have := smp_ge _ (fun p hp => by
          obtain ⟨p1, p2⟩ := p
          have k := List.of_mem_zip hp
          exact ⟨tms_ge _ ld (ln % ld) (Nat.le_refl _) m0 (by omega) _ (List.mem_map_of_mem k.1), tms_ge _ hd (hn % hd) (Nat.le_refl _) q0 (by omega) _ (List.mem_map_of_mem k.2)⟩) x hx
        simp; omega
  rw [fromA, if_neg f1, hb]
  exact f2

end Go.Proofs.YtonndlhppihdiaaDoor
