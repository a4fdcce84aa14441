/-
  Mathematics of ExtAges: what ticks make of a value that is never told anew; what Hear answers.
-/
import Derived.Test.YtnnapooochfnhaaX6
namespace Go.Proofs.Ytnnapooochfnhaa
open Go.ChangeShapes Go.WideShapes Go.ChangeAt Go.RowKit
set_option linter.unusedVariables false
set_option linter.unusedSimpArgs false

/-- A tick of one of the two values. -/
def stepX (up : Bool) (id : Int) (has : Bool) (inp : Int) (x : EX) : EX := if has = true then holdX up (forX id (oldX x)) (ownX id inp) else forX id (oldX x)
theorem tick_step (id : Int) (has : Bool) (inp : Int) (a b : EX) : tickX id has inp a b = (stepX true id has inp a, stepX false id has inp b) := by
  unfold tickX stepX setX
  cases has <;> rfl
/-- What is known where nothing of others is left. -/
def bare (id : Int) (has : Bool) (inp : Int) : EX := if has = true then ownX id inp else EX.z
/-- A value lies on the right side of an input. -/
def side (up : Bool) (v inp : Int) : Prop := if up = true then v ≤ inp else inp ≤ v
theorem hold_zown (up : Bool) (id inp : Int) : holdX up EX.z (ownX id inp) = ownX id inp := by simp [holdX, rkX, ownX]
theorem step_of (up : Bool) (id : Int) (has : Bool) (inp : Int) {x : EX} (h : forX id (oldX x) = EX.z) : stepX up id has inp x = bare id has inp := by
  unfold stepX bare
  rw [h]
  cases has
  · rfl
  · exact hold_zown up id inp
theorem step_none (up : Bool) (id : Int) (has : Bool) (inp : Int) {x : EX} (h : x.h = false) : stepX up id has inp x = bare id has inp :=
  step_of up id has inp (by rw [show oldX x = EX.z from if_pos (.inl h), for_z])
theorem step_mine (up : Bool) (id : Int) (has : Bool) (inp : Int) {x : EX} (h : x.o = id) : stepX up id has inp x = bare id has inp := by
  refine step_of up id has inp ?_
  unfold oldX
  split
  · exact for_z id
  · exact if_pos h
theorem hold_side (up : Bool) (id inp : Int) {y : EX} (hy : y.h = true) : holdX up y (ownX id inp) = ownX id inp ∨ (holdX up y (ownX id inp) = y ∧ side up y.v inp) := by
  unfold holdX
  by_cases c : rkX up (ownX id inp) y < 0
  · exact .inl (if_pos c)
  · refine .inr ⟨if_neg c, ?_⟩
    unfold side
    by_cases d : inp = y.v
    · subst d
      cases up <;> simp
    · have : ¬ vcm up inp y.v < 0 := by
        intro hv
        apply c
        have hn : vcm up inp y.v ≠ 0 := by omega
        simp [rkX, ownX, hy, orZ, hn, hv]
      unfold vcm cmpZ at this
      cases up <;> simp at this ⊢ <;> omega
theorem step_some (up : Bool) (id : Int) (has : Bool) (inp : Int) {x : EX} (hh : x.h = true) (ho : x.o ≠ id) :
    stepX up id has inp x = bare id has inp ∨ (x.g + 1 ≤ 63 ∧ (has = true → side up x.v inp) ∧ stepX up id has inp x = ⟨true, x.v, x.o, x.g + 1⟩) := by
  by_cases c : 63 ≤ x.g
  · exact .inl (step_of up id has inp (by rw [show oldX x = EX.z from if_pos (.inr c), for_z]))
  · have e : forX id (oldX x) = ⟨true, x.v, x.o, x.g + 1⟩ := by
      rw [show oldX x = ⟨x.h, x.v, x.o, x.g + 1⟩ from if_neg (by rw [hh]; simp; omega), hh]
      exact if_neg ho
    unfold stepX bare
    rw [e]
    cases has with
    | false => exact .inr ⟨by omega, fun h => (by cases h), rfl⟩
    | true =>
      rcases hold_side up id inp (y := ⟨true, x.v, x.o, x.g + 1⟩) rfl with h | ⟨h, k⟩
      · exact .inl h
      · exact .inr ⟨by omega, fun _ => k, h⟩
/-- What there is behind i ticks of a value a that is never told anew. -/
def Aged (up : Bool) (id : Int) (has : Bool) (inp : Int) (a : EX) (i : Nat) (x : EX) : Prop :=
  x = bare id has inp ∨ (a.h = true ∧ a.o ≠ id ∧ a.g + (i : Int) ≤ 63 ∧ (has = true → side up a.v inp) ∧ x = ⟨true, a.v, a.o, a.g + (i : Int)⟩)
theorem aged_one (up : Bool) (id : Int) (has : Bool) (inp : Int) (a : EX) : Aged up id has inp a 1 (stepX up id has inp a) := by
  cases hh : a.h with
  | false => exact .inl (step_none up id has inp hh)
  | true =>
    by_cases ho : a.o = id
    · exact .inl (step_mine up id has inp ho)
    · rcases step_some up id has inp hh ho with h | ⟨h1, h2, h3⟩
      · exact .inl h
      · exact .inr ⟨hh, ho, h1, h2, h3⟩
theorem bare_step (up : Bool) (id : Int) (has : Bool) (inp : Int) : stepX up id has inp (bare id has inp) = bare id has inp := by
  cases has
  · exact step_none up id false inp rfl
  · exact step_mine up id true inp rfl
theorem aged_step {up : Bool} {id : Int} {has : Bool} {inp : Int} {a x : EX} {i : Nat} (h : Aged up id has inp a i x) : Aged up id has inp a (i + 1) (stepX up id has inp x) := by
  rcases h with rfl | ⟨h1, h2, h3, h4, rfl⟩
  · exact .inl (bare_step up id has inp)
  · rcases step_some up id has inp (x := ⟨true, a.v, a.o, a.g + (i : Int)⟩) rfl h2 with h | ⟨k1, k2, k3⟩
    · exact .inl h
    · refine .inr ⟨h1, h2, ?_, h4, ?_⟩
      · dsimp only at k1
        omega
      · rw [k3]
        dsimp only
        congr 1
        omega
/-- The same, with what there is ahead of the first tick. -/
def Going (up : Bool) (id : Int) (has : Bool) (inp : Int) (a : EX) (i : Nat) (x : EX) : Prop := (i = 0 ∧ x = a) ∨ (0 < i ∧ Aged up id has inp a i x)
theorem going_step {up : Bool} {id : Int} {has : Bool} {inp : Int} {a x : EX} {i : Nat} (h : Going up id has inp a i x) : Aged up id has inp a (i + 1) (stepX up id has inp x) := by
  rcases h with ⟨rfl, rfl⟩ | ⟨_, h⟩
  · exact aged_one up id has inp x
  · exact aged_step h
theorem bare_fit {id : Int} {has : Bool} {inp : Int} (h1 : nodeB id = true) (h2 : flowB inp = true) : fitB (bare id has inp) = true := by
  unfold bare
  split
  · exact own_fit h1 h2
  · exact fit_z
theorem aged_fit {up : Bool} {id : Int} {has : Bool} {inp : Int} {a x : EX} {i : Nat} (h1 : nodeB id = true) (h2 : flowB inp = true) (ha : fitB a = true) (h : Aged up id has inp a i x) : fitB x = true := by
  rcases h with rfl | ⟨k1, k2, k3, k4, rfl⟩
  · exact bare_fit h1 h2
  · have := fit_some ha k1
    refine fit_of rfl ?_
    dsimp only
    omega
theorem going_fit {up : Bool} {id : Int} {has : Bool} {inp : Int} {a x : EX} {i : Nat} (h1 : nodeB id = true) (h2 : flowB inp = true) (ha : fitB a = true) (h : Going up id has inp a i x) : fitB x = true := by
  rcases h with ⟨_, rfl⟩ | ⟨_, h⟩
  · exact ha
  · exact aged_fit h1 h2 ha h
theorem going_end {up : Bool} {id : Int} {has : Bool} {inp : Int} {a x : EX} (ha : fitB a = true) (h : Going up id has inp a 64 x) : x = bare id has inp := by
  rcases h with ⟨e, _⟩ | ⟨_, rfl | ⟨k1, k2, k3, _⟩⟩
  · cases e
  · rfl
  · have := fit_some ha k1
    omega
theorem aged_side {up : Bool} {id : Int} {inp : Int} {a x : EX} {i : Nat} (h : Aged up id true inp a i x) : x.h = true ∧ side up x.v inp := by
  rcases h with rfl | ⟨k1, k2, k3, k4, rfl⟩
  · refine ⟨rfl, ?_⟩
    unfold side
    cases up <;> exact Int.le_refl _
  · exact ⟨rfl, k4 rfl⟩
theorem hold_z (up : Bool) {x : EX} (h : fitB x = true) : holdX up x EX.z = x := by
  cases hh : x.h with
  | false => rw [fit_none h hh]; exact hold_self up EX.z
  | true => simp [holdX, rkX, hh]
/-- What Hear answers is what was there, or what was told. -/
theorem hear_or (up : Bool) (id : Int) {x t : EX} (hx : fitB x = true) : holdX up x (forX id t) = x ∨ holdX up x (forX id t) = t := by
  unfold forX
  split
  · exact .inl (hold_z up hx)
  · exact hold_or up x t
theorem Mem.swap {w W : World} {p q : Nat × EX} {l : List (Nat × EX)} (M : Mem w W (p :: q :: l)) : Mem w W (q :: p :: l) := by
  refine M.sub _ (fun r hr => ?_) ?_
  · simp only [List.mem_cons] at hr ⊢
    rcases hr with h | h | h
    · exact .inr (.inl h)
    · exact .inl h
    · exact .inr (.inr h)
  · have h := M.nd
    simp only [List.map_cons, List.nodup_cons, List.mem_cons, not_or] at h ⊢
    exact ⟨⟨fun e => h.1.1 e.symm, h.2.1⟩, h.1.2, h.2.2⟩
end Go.Proofs.Ytnnapooochfnhaa
