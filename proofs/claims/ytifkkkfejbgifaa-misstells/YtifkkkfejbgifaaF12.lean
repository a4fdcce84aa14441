/-
  The document's Fit, whole.
-/
import Derived.Test.YtifkkkfejbgifaaF10
import Derived.Test.YtifkkkfejbgifaaF11
namespace Go.Proofs.Ytifkkkfejbgifaa
open Go.ChangeShapes Go.WideShapes Go.ChangeAt Go.RowKit
set_option linter.unusedVariables false
set_option linter.unusedSimpArgs false

theorem dfit_any (id : Int) (h : HS) (a : Option Addr) (c : Nat) (w : World) (R : RdO w h a c) : Calls Try.prog 23 #[.int .i64 id, (h.on a c).val] w fun e w' => e = .returned (.bool (h.fit id)) ∧ Below w.heap.size w w' := by
  obtain ⟨peer, boot, life, ls, pend, miss⟩ := h
  have go : ∀ b, (HS.mk peer boot life ls pend miss).fit id = b → (Calls Try.prog 23 #[.int .i64 id, .agg #[.int .i64 peer, .int .i64 boot, .int .i64 life, .slice a ls.length c, .bool pend, .int .i64 miss]] w fun e w' => e = .returned (.bool b) ∧ Below w.heap.size w w') → Calls Try.prog 23 #[.int .i64 id, ((HS.mk peer boot life ls pend miss).on a c).val] w fun e w' => e = .returned (.bool ((HS.mk peer boot life ls pend miss).fit id)) ∧ Below w.heap.size w w' := fun b e h => by rw [e]; exact h
  have F : ∀ (q : Prop), ((HS.mk peer boot life ls pend miss).fit id = true → q) → ¬ q → (HS.mk peer boot life ls pend miss).fit id = false := fun q h1 h2 => by
    cases e : (HS.mk peer boot life ls pend miss).fit id with
    | false => rfl
    | true => exact absurd (h1 e) h2
  have G : (HS.mk peer boot life ls pend miss).fit id = true → nodeB id = true ∧ nodeB peer = true ∧ (!eqI peer id) = true ∧ (1 ≤ boot ∧ boot ≤ 1099511627776) ∧ (0 ≤ life ∧ life ≤ 1099511627776) ∧ missB pend miss = true ∧ ls.length ≤ 8 ∧ linesB id peer ls = true := fun h => by
    unfold HS.fit inB at h
    simp only [Bool.and_eq_true, decide_eq_true_eq] at h
    obtain ⟨h1, h2, h3, h4, h5, h6, h7, h8⟩ := h
    exact ⟨h1, h2, h3, h4, h5, h6, h7, h8⟩
  have M : missB pend miss = true → 0 ≤ miss ∧ miss < 3 ∧ (pend = false → miss = 0) := fun h => by
    unfold missB at h
    simp only [Bool.or_eq_true, Bool.and_eq_true, decide_eq_true_eq] at h
    rcases h with h | ⟨h1, h2⟩
    · exact ⟨by omega, by omega, fun _ => h⟩
    · exact ⟨by omega, by omega, fun e => by rw [h1] at e; cases e⟩
  cases h1 : nodeB id with
  | false => exact go _ (F _ (fun k => (G k).1) (by rw [h1]; decide)) (rfit_0 id peer boot life ls pend miss a c w h1)
  | true =>
  cases h2 : nodeB peer with
  | false => exact go _ (F _ (fun k => (G k).2.1) (by rw [h2]; decide)) (rfit_1 id peer boot life ls pend miss a c w h1 h2)
  | true =>
  cases h3 : (peer == id) with
  | true => exact go _ (F _ (fun k => (G k).2.2.1) (by have : peer = id := by simpa using h3
                                                       simp [eqI, this])) (rfit_2 id peer boot life ls pend miss a c w h1 h2 h3)
  | false =>
  by_cases h4 : boot < 1
  · exact go _ (F _ (fun k => (G k).2.2.2.1) (by omega)) (rfit_3 id peer boot life ls pend miss a c w h1 h2 h3 h4)
  by_cases h5 : 1099511627776 < boot
  · exact go _ (F _ (fun k => (G k).2.2.2.1) (by omega)) (rfit_4 id peer boot life ls pend miss a c w h1 h2 h3 h4 h5)
  by_cases h6 : life < 0
  · exact go _ (F _ (fun k => (G k).2.2.2.2.1) (by omega)) (rfit_5 id peer boot life ls pend miss a c w h1 h2 h3 h4 h5 h6)
  by_cases h7 : 1099511627776 < life
  · exact go _ (F _ (fun k => (G k).2.2.2.2.1) (by omega)) (rfit_6 id peer boot life ls pend miss a c w h1 h2 h3 h4 h5 h6 h7)
  by_cases h8 : (8 : Int) < (ls.length : Int)
  · exact go _ (F _ (fun k => (G k).2.2.2.2.2.2.1) (by omega)) (rfit_7 id peer boot life ls pend miss a c w h1 h2 h3 h4 h5 h6 h7 h8)
  by_cases h9 : miss < 0
  · exact go _ (F _ (fun k => M (G k).2.2.2.2.2.1) (by omega)) (rfit_8 id peer boot life ls pend miss a c w h1 h2 h3 h4 h5 h6 h7 h8 h9)
  by_cases h10 : 3 ≤ miss
  · exact go _ (F _ (fun k => M (G k).2.2.2.2.2.1) (by omega)) (rfit_9 id peer boot life ls pend miss a c w h1 h2 h3 h4 h5 h6 h7 h8 h9 h10)
  have e3 : (!eqI peer id) = true := by
    have : ¬ peer = id := by simpa using h3
    simp [eqI, this]
  have fin : missB pend miss = true → (HS.mk peer boot life ls pend miss).fit id = linesB id peer ls := fun hm => by
    unfold HS.fit
    dsimp only
    rw [h1, h2, e3, show inB 1 boot 1099511627776 = true from decide_eq_true (by omega), show inB 0 life 1099511627776 = true from decide_eq_true (by omega), hm, decide_eq_true (show ls.length ≤ 8 by omega)]
    rfl
  cases pend with
  | true => exact go _ (fin (by simp [missB]; omega)) (rfit_loop_true id peer boot life ls miss a c w R h1 h2 h3 h4 h5 h6 h7 h8 h9 h10)
  | false =>
    cases h11 : (miss == 0) with
    | true => exact go _ (fin (by simp at h11; simp [missB, h11])) (rfit_loop_false id peer boot life ls miss a c w R h1 h2 h3 h4 h5 h6 h7 h8 h9 h10 h11)
    | false => exact go _ (F _ (fun k => (M (G k).2.2.2.2.2.1).2.2 rfl) (by simpa using h11)) (rfit_10 id peer boot life ls false miss a c w h1 h2 h3 h4 h5 h6 h7 h8 h9 h10 ⟨rfl, h11⟩)
end Go.Proofs.Ytifkkkfejbgifaa
