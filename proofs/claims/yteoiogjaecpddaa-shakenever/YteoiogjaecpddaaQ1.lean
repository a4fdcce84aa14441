/-
  Never back, as mathematics: what See and Dropped leave of what was seen.
-/
import Derived.Test.YteoiogjaecpddaaQ0
namespace Go.Proofs.Yteoiogjaecpddaa
open Go.ChangeShapes Go.WideShapes Go.ChangeAt Go.RowKit
set_option linter.unusedVariables false
set_option linter.unusedSimpArgs false

theorem ltr_self (b l : Int) : ltr b l b l = false := ltr_no.2 (by omega)
theorem ltr_asym {b l c m : Int} (h : ltr b l c m = true) : ltr c m b l = false := ltr_no.2 (by have := ltr_iff.1 h; omega)
/-- What comes next of a list. -/
def nxt (d : Bool) (k b f : Int) (l : List SN) : List SN := if d = true then drpL k l else seeL k b f l
theorem nxt_fit {id k b f : Int} {l : List SN} (d : Bool) (h : FitP id l) (hk : 0 ≤ k ∧ k < 16) (hki : k ≠ id) (hb : 1 ≤ b ∧ b ≤ 1099511627776) (hf : 0 ≤ f ∧ f ≤ 1099511627776) : FitP id (nxt d k b f l) := by
  unfold nxt
  split
  · exact fit_drp h hk hki
  · exact fit_see h hk hki hb hf
theorem nxt_get {id k b f : Int} {l : List SN} (d : Bool) (h : FitP id l) (q : Int) :
    ltr (getL q l).boot (getL q l).life (getL q (nxt d k b f l)).boot (getL q (nxt d k b f l)).life = false ∧ ¬ (getL q (nxt d k b f l)).mine < (getL q l).mine ∧ (q ≠ k → getL q (nxt d k b f l) = getL q l) := by
  unfold nxt
  by_cases hd : d = true
  · rw [if_pos hd, get_drp]
    by_cases hq : q = k
    · rw [if_pos hq, hq]
      have hr := (get_rng (k := k) h).2.2
      refine ⟨ltr_self _ _, ?_, fun e => absurd rfl e⟩
      have hm : (drop1 (getL k l)).mine = (if 1099511627775 < (getL k l).mine then 1099511627775 else (getL k l).mine) + 1 := rfl
      rw [hm]
      split <;> omega
    · rw [if_neg hq]
      exact ⟨ltr_self _ _, by omega, fun _ => rfl⟩
  · rw [if_neg hd, get_see]
    by_cases hq : q = k ∧ ltr b f (getL k l).boot (getL k l).life = true
    · rw [if_pos hq, hq.1]
      exact ⟨ltr_asym hq.2, by show ¬ (getL k l).mine < (getL k l).mine; omega, fun e => absurd rfl e⟩
    · rw [if_neg hq]
      exact ⟨ltr_self _ _, by omega, fun _ => rfl⟩
theorem nxt_seen (k b f : Int) (l : List SN) : ltr b f (getL k (nxt false k b f l)).boot (getL k (nxt false k b f l)).life = false := by
  unfold nxt
  rw [if_neg (by decide), get_see]
  by_cases h : ltr b f (getL k l).boot (getL k l).life = true
  · rw [if_pos ⟨rfl, h⟩]
    exact ltr_self _ _
  · rw [if_neg (fun q => h q.2)]
    exact Bool.eq_false_iff.2 h
end Go.Proofs.Yteoiogjaecpddaa
