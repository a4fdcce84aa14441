/-
  Package trade: the mathematics of balances: what is left behind one, seen from either end, and the play of two ends.
-/
import Derived.Test.YtcjdfnfaiocdjaaT2
namespace Go.Proofs.Ytcjdfnfaiocdjaa
open Go.ChangeShapes Go.WideShapes Go.ChangeAt Go.RowKit
set_option linter.unusedVariables false
set_option linter.unusedSimpArgs false

theorem along_turn {a b : Int} (h : a ≠ b) (x : Int) : alongZ (-x) b a = alongZ x a b := by
  unfold alongZ
  by_cases c : a < b
  · rw [if_pos c, if_neg (by omega)]; omega
  · rw [if_neg c, if_pos (by omega)]
theorem ends_turn (v p f me pe rest told : Int) : ends v p f pe me told rest = ⟨(ends v p f me pe rest told).b, (ends v p f me pe rest told).a, (ends v p f me pe rest told).e⟩ := by
  unfold ends
  rw [fit_turn v p f me pe]
  by_cases h1 : fitB v p f me pe = false
  · rw [if_pos h1, if_pos h1]
  · rw [if_neg h1, if_neg h1]
    by_cases h2 : rngB rest = false ∨ rngB told = false
    · rw [if_pos h2, if_pos h2.symm]
    · rw [if_neg h2, if_neg (fun h => h2 h.symm)]
      by_cases h3 : rngB (rest - outZ v p f me pe) = false ∨ rngB (told - outZ v p f pe me) = false
      · rw [if_pos h3, if_pos h3.symm]
      · rw [if_neg h3, if_neg (fun h => h3 h.symm)]
theorem mv_ok {v p f a b x q : Int} (h : (mv v p f a b x q).e = 0) : fitB v p f a b = true ∧ endB q a b = true ∧ rngB x = true ∧
    ((x = 0 ∧ mv v p f a b x q = ⟨v, p, f, 0⟩) ∨ (x ≠ 0 ∧ v ≠ 1099511627776 ∧ rngB (f + alongZ x a b) = true ∧ mv v p f a b x q = ⟨v + 1, q, f + alongZ x a b, 0⟩)) := by
  unfold mv at h ⊢
  by_cases h1 : fitB v p f a b = false ∨ endB q a b = false
  · rw [if_pos h1] at h; simp at h
  · rw [if_neg h1] at h ⊢
    have f1 : fitB v p f a b = true := by cases k : fitB v p f a b <;> simp_all
    have f2 : endB q a b = true := by cases k : endB q a b <;> simp_all
    refine ⟨f1, f2, ?_⟩
    by_cases h2 : rngB x = false
    · rw [if_pos h2] at h; simp at h
    · rw [if_neg h2] at h ⊢
      refine ⟨by simpa using h2, ?_⟩
      by_cases h3 : x = 0
      · rw [if_pos h3]; exact .inl ⟨h3, rfl⟩
      · rw [if_neg h3] at h ⊢
        by_cases h4 : v = 1099511627776 ∨ rngB (f + alongZ x a b) = false
        · rw [if_pos h4] at h; simp at h
        · rw [if_neg h4]
          refine .inr ⟨h3, fun e => h4 (.inl e), ?_, rfl⟩
          cases k : rngB (f + alongZ x a b) with
          | true => rfl
          | false => exact absurd (.inr k) h4
theorem out_moved {v p f me pe n : Int} (hf : fitB v p f me pe = true) (hv : v ≠ 1099511627776) (hr : rngB (f + alongZ n pe me) = true) :
    fitB (v + 1) me (f + alongZ n pe me) me pe = true ∧ outZ (v + 1) me (f + alongZ n pe me) me pe = outZ v p f me pe - n ∧ outZ (v + 1) me (f + alongZ n pe me) pe me = outZ v p f pe me + n := by
  obtain ⟨v0, v1, hne⟩ := fit_ver hf
  have he : edgeB me pe = true := by
    unfold fitB at hf
    cases k : edgeB me pe with
    | true => rfl
    | false => rw [k] at hf; simp at hf
  have hg : fitB (v + 1) me (f + alongZ n pe me) me pe = true := by
    unfold fitB lineB
    rw [he, hr]
    have e1 : endB me me pe = true := by simp [endB]
    have e2 : decide (1 ≤ v + 1) = true := by simp; omega
    have e3 : decide (v + 1 ≤ 1099511627776) = true := by simp; omega
    rw [e1, e2, e3]
    simp
  refine ⟨hg, ?_, ?_⟩
  · unfold outZ
    rw [if_pos hg, if_pos hf]
    unfold alongZ
    by_cases c : me < pe
    · rw [if_pos c, if_pos c, if_neg (by omega)]; omega
    · rw [if_neg c, if_neg c, if_pos (by omega)]; omega
  · rw [out_turn hg, out_turn hf]
    unfold outZ
    rw [if_pos hg, if_pos hf]
    unfold alongZ
    by_cases c : me < pe
    · rw [if_pos c, if_pos c, if_neg (by omega)]; omega
    · rw [if_neg c, if_neg c, if_pos (by omega)]; omega
/-- Behind a balance that was done. -/
theorem bal_ok {v p f me pe rest told : Int} (h : (bal v p f me pe rest told).e = 0) :
    (ends v p f me pe rest told).e = 0 ∧ (bal v p f me pe rest told).n = ((ends v p f me pe rest told).b - (ends v p f me pe rest told).a).tdiv 2 ∧
    fitB (bal v p f me pe rest told).v (bal v p f me pe rest told).p (bal v p f me pe rest told).f me pe = true ∧
    ends (bal v p f me pe rest told).v (bal v p f me pe rest told).p (bal v p f me pe rest told).f me pe rest told = ⟨(ends v p f me pe rest told).a + (bal v p f me pe rest told).n, (ends v p f me pe rest told).b - (bal v p f me pe rest told).n, 0⟩ ∧
    (((bal v p f me pe rest told).n = 0 ∧ (bal v p f me pe rest told).v = v ∧ (bal v p f me pe rest told).p = p ∧ (bal v p f me pe rest told).f = f) ∨
     ((bal v p f me pe rest told).n ≠ 0 ∧ (bal v p f me pe rest told).v = v + 1 ∧ (bal v p f me pe rest told).p = me)) := by
  rcases ends_cases v p f me pe rest told with k | k | ⟨h1, h2, h3, h4, h5, k⟩
  · unfold bal at h; rw [k] at h; simp at h
  · unfold bal at h; rw [k] at h; simp at h
  · have he : (ends v p f me pe rest told).e = 0 := by rw [k]
    have ha : (ends v p f me pe rest told).a = rest - outZ v p f me pe := by rw [k]
    have hb : (ends v p f me pe rest told).b = told - outZ v p f pe me := by rw [k]
    have HB : bal v p f me pe rest told = if (mv v p f pe me (amt v p f me pe rest told) me).e ≠ 0 then ⟨0, 0, 0, 0, (mv v p f pe me (amt v p f me pe rest told) me).e⟩
      else ⟨(mv v p f pe me (amt v p f me pe rest told) me).v, (mv v p f pe me (amt v p f me pe rest told) me).p, (mv v p f pe me (amt v p f me pe rest told) me).f, amt v p f me pe rest told, 0⟩ := by
      unfold bal
      rw [if_neg (by simp [he])]
    have hm : (mv v p f pe me (amt v p f me pe rest told) me).e = 0 := by
      by_cases c : (mv v p f pe me (amt v p f me pe rest told) me).e = 0
      · exact c
      · rw [HB, if_pos c] at h; exact absurd h c
    rw [if_neg (by simp [hm])] at HB
    have hn : amt v p f me pe rest told = ((ends v p f me pe rest told).b - (ends v p f me pe rest told).a).tdiv 2 := rfl
    obtain ⟨m1, m2, m3, m4⟩ := mv_ok hm
    rw [ha, hb] at hn ⊢
    generalize amt v p f me pe rest told = n at *
    have hd := tdiv2 ((told - outZ v p f pe me) - (rest - outZ v p f me pe))
    rcases m4 with ⟨n0, m4⟩ | ⟨n0, m5, m6, m4⟩
    · rw [m4] at HB
      rw [HB]
      subst n0
      refine ⟨he, hn, h1, ?_, .inl ⟨rfl, rfl, rfl, rfl⟩⟩
      rw [k]; simp
    · rw [m4] at HB
      rw [HB]
      obtain ⟨o1, o2, o3⟩ := out_moved h1 m5 m6
      refine ⟨he, hn, o1, ?_, .inr ⟨n0, rfl, rfl⟩⟩
      dsimp only
      have b1 := rng_true h4
      have b2 := rng_true h5
      have r1 : rngB (rest - (outZ v p f me pe - n)) = true := by unfold rngB; simp; omega
      have r2 : rngB (told - (outZ v p f pe me + n)) = true := by unfold rngB; simp; omega
      unfold ends
      rw [o2, o3, if_neg (by simp [o1]), if_neg (by simp [h2, h3]), if_neg (by simp [r1, r2])]
      congr 1 <;> omega
/-- Where the estimates differ by 1 at most nothing goes. -/
theorem bal_still {v p f me pe rest told : Int} (hf : fitB v p f me pe = true) (he : (ends v p f me pe rest told).e = 0) (h1 : (ends v p f me pe rest told).b - (ends v p f me pe rest told).a ≤ 1)
    (h2 : -1 ≤ (ends v p f me pe rest told).b - (ends v p f me pe rest told).a) : bal v p f me pe rest told = ⟨v, p, f, 0, 0⟩ := by
  have hn : amt v p f me pe rest told = 0 := by
    unfold amt
    have := tdiv2 ((ends v p f me pe rest told).b - (ends v p f me pe rest told).a)
    omega
  have hm : mv v p f pe me 0 me = ⟨v, p, f, 0⟩ := by
    unfold mv
    rw [if_neg (by rw [fit_turn, hf]; simp [endB]), if_neg (by simp [rngB]), if_pos rfl]
  unfold bal
  rw [if_neg (by simp [he]), hn, hm]
  rfl
/-- A second balance, at either end, moves nothing. -/
theorem bal_twice {v p f me pe rest told : Int} (h : (bal v p f me pe rest told).e = 0) :
    bal (bal v p f me pe rest told).v (bal v p f me pe rest told).p (bal v p f me pe rest told).f me pe rest told = ⟨(bal v p f me pe rest told).v, (bal v p f me pe rest told).p, (bal v p f me pe rest told).f, 0, 0⟩ ∧
    bal (bal v p f me pe rest told).v (bal v p f me pe rest told).p (bal v p f me pe rest told).f pe me told rest = ⟨(bal v p f me pe rest told).v, (bal v p f me pe rest told).p, (bal v p f me pe rest told).f, 0, 0⟩ := by
  obtain ⟨h1, h2, h3, h4, h5⟩ := bal_ok h
  have hd := tdiv2 ((ends v p f me pe rest told).b - (ends v p f me pe rest told).a)
  constructor
  · refine bal_still h3 (by rw [h4]) ?_ ?_
    · rw [h4]; dsimp only; omega
    · rw [h4]; dsimp only; omega
  · refine bal_still (by rw [fit_turn]; exact h3) (by rw [ends_turn, h4]) ?_ ?_
    · rw [ends_turn, h4]; dsimp only; omega
    · rw [ends_turn, h4]; dsimp only; omega
/-- At the other end the same amount goes the other way. -/
theorem bal_turn (v p f me pe rest told : Int) : (bal v p f pe me told rest).e = (bal v p f me pe rest told).e ∧ (bal v p f pe me told rest).n = -(bal v p f me pe rest told).n ∧ (bal v p f pe me told rest).v = (bal v p f me pe rest told).v ∧ (bal v p f pe me told rest).f = (bal v p f me pe rest told).f := by
  have ht := ends_turn v p f me pe rest told
  have ha : amt v p f pe me told rest = - amt v p f me pe rest told := by
    unfold amt
    rw [ht]
    dsimp only
    have d1 := tdiv2 ((ends v p f me pe rest told).b - (ends v p f me pe rest told).a)
    have d2 := tdiv2 ((ends v p f me pe rest told).a - (ends v p f me pe rest told).b)
    omega
  by_cases he : (ends v p f me pe rest told).e = 0
  · have B1 : bal v p f me pe rest told = if (mv v p f pe me (amt v p f me pe rest told) me).e ≠ 0 then ⟨0, 0, 0, 0, (mv v p f pe me (amt v p f me pe rest told) me).e⟩
      else ⟨(mv v p f pe me (amt v p f me pe rest told) me).v, (mv v p f pe me (amt v p f me pe rest told) me).p, (mv v p f pe me (amt v p f me pe rest told) me).f, amt v p f me pe rest told, 0⟩ := by
      unfold bal
      rw [if_neg (by simp [he])]
    have B2 : bal v p f pe me told rest = if (mv v p f me pe (-amt v p f me pe rest told) pe).e ≠ 0 then ⟨0, 0, 0, 0, (mv v p f me pe (-amt v p f me pe rest told) pe).e⟩
      else ⟨(mv v p f me pe (-amt v p f me pe rest told) pe).v, (mv v p f me pe (-amt v p f me pe rest told) pe).p, (mv v p f me pe (-amt v p f me pe rest told) pe).f, -amt v p f me pe rest told, 0⟩ := by
      unfold bal
      rw [ht, ha, if_neg (by simp [he])]
    rw [B1, B2]
    clear B1 B2
    have hf : fitB v p f me pe = true := by
      rcases ends_cases v p f me pe rest told with k | k | ⟨h1, _⟩
      · rw [k] at he; simp at he
      · rw [k] at he; simp at he
      · exact h1
    have hne := (fit_ver hf).2.2
    have hl : alongZ (-amt v p f me pe rest told) me pe = alongZ (amt v p f me pe rest told) pe me := along_turn (fun e => hne e.symm) _
    generalize amt v p f me pe rest told = n at *
    have e1 : endB me pe me = true := by simp [endB]
    have e2 : endB pe me pe = true := by simp [endB]
    have r1 : rngB (-n) = rngB n := by
      unfold rngB
      congr 1
      apply propext
      constructor <;> intro h <;> omega
    have M1 : mv v p f pe me n me = if rngB n = false then ⟨0, 0, 0, 10⟩ else if n = 0 then ⟨v, p, f, 0⟩ else if v = 1099511627776 ∨ rngB (f + alongZ n pe me) = false then ⟨0, 0, 0, 10⟩ else ⟨v + 1, me, f + alongZ n pe me, 0⟩ := by
      unfold mv
      rw [if_neg (by rw [fit_turn, hf, e1]; simp)]
    have M2 : mv v p f me pe (-n) pe = if rngB n = false then ⟨0, 0, 0, 10⟩ else if n = 0 then ⟨v, p, f, 0⟩ else if v = 1099511627776 ∨ rngB (f + alongZ n pe me) = false then ⟨0, 0, 0, 10⟩ else ⟨v + 1, pe, f + alongZ n pe me, 0⟩ := by
      unfold mv
      rw [if_neg (by rw [hf, e2]; simp), r1, hl]
      by_cases c : n = 0
      · subst c; rfl
      · rw [if_neg c, if_neg (show ¬ -n = 0 by omega)]
    rw [M1, M2]
    by_cases c1 : rngB n = false
    · rw [if_pos c1, if_pos c1]; simp
    · rw [if_neg c1, if_neg c1]
      by_cases c2 : n = 0
      · rw [if_pos c2, if_pos c2]; simp
      · rw [if_neg c2, if_neg c2]
        by_cases c3 : v = 1099511627776 ∨ rngB (f + alongZ n pe me) = false
        · rw [if_pos c3, if_pos c3]; simp
        · rw [if_neg c3, if_neg c3]; simp
  · unfold bal
    rw [ht]
    dsimp only
    rw [if_pos he, if_pos he]; simp
end Go.Proofs.Ytcjdfnfaiocdjaa
