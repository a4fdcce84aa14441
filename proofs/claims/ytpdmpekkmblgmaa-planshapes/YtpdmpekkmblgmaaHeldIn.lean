/-
  A statement whose order is open, within a fence: a load may be taken first where nobody writes what it reads (a condition S on the world is held on the way).
-/
import Derived.OrdersIn
import Derived.OrdersHeld
import Derived.Deep.RegionHeld
import Derived.WalkKit
import Derived.RangeFuncCalls
import Derived.OwnWalkIn
namespace Go.Proofs.Ytpdmpekkmblgmaa
open Go.RowKit
set_option linter.unusedVariables false
set_option linter.unusedSimpArgs false

section
variable {F : Fence} {n : Nat} {P : Program} {ops : Array Oper} {Q : Exit → Act → World → Prop} {md : Region.Mode} {S : World → Prop}
/-- No operation that defers. -/
def noDefer (ops : Array Oper) : Bool := ops.all fun o => match o.op with | .defer _ => false | _ => true
theorem noDefer_spec {ops : Array Oper} (h : noDefer ops = true) {j : Nat} {o : Oper} (hj : ops[j]? = some o) : ∀ c, o.op ≠ .defer c := fun c hc => by
  unfold noDefer at h
  rw [Array.all_eq_true_iff_forall_mem] at h
  have := h o (Array.mem_of_getElem? hj)
  rw [hc] at this
  cases this
/-- An operation that is apart from oi does the same whether oi's value is there or not, and a property of states that it leaves alone stays. -/
theorem opIn_keep {j : Nat} {oi oj : Oper} {v : Value} (hro : noDefer ops = true) (hj : ops[j]? = some oj) (hap : oi.apart ops oj = true) (hsj : ∀ cs b, oj.op ≠ .select cs b)
    (hQ : ∀ c a w, Q (.panic c) (a.put oi.dst v) w → Q (.panic c) a w) {Y : Act → Prop} (kp : ∀ a, Y a → ∀ u, Y (a.put oj.dst u)) (kd : ∀ a d, Y a → Y { a with defers := d :: a.defers })
    {K : Act → World → Prop} {a : Act} {w : World} (hy : Y a) (h : wpOpIn F n P ops Q j K (a.put oi.dst v) w) : wpOpIn F n P ops Q j (fun a' w' => Y a' ∧ K (a'.put oi.dst v) w') a w := by
  obtain ⟨h1, h2, h3⟩ := Oper.apart_spec hap
  have com : ∀ (b : Act) u, (b.put oj.dst u).put oi.dst v = (b.put oi.dst v).put oj.dst u := fun b u => (Act.put_comm b v u h2).symm
  have eb := about_put (P := P) oj w a oi.dst v h1
  have ew := wanted_put oj a oi.dst v h1
  have ex := execOp_put oj hsj a oi.dst v h1
  unfold wpOpIn at h ⊢
  simp only [hj] at h ⊢
  rw [ew] at h
  by_cases hw : Region.wanted oj (yielded ops a.tmps) = true
  · rw [if_pos hw] at h ⊢
    unfold Oper.wpIn at h ⊢
    rw [eb] at h
    refine ⟨h.1, ?_⟩
    have g := h.2
    rw [Oper.semAt_plain F _ _ (noDefer_spec hro hj), ex] at g
    rw [Oper.semAt_plain F _ _ (noDefer_spec hro hj)]
    revert g
    generalize (execOp a.eval oj).run P w = r
    intro g
    cases r with
    | halt x w' =>
      cases x with
      | panic u => exact hQ _ _ _ g
      | _ => exact g
    | ok x w' =>
      match x, g with
      | .value u, g => exact ⟨kp a hy u, by rw [com]; exact g⟩
      | .skip, g => exact ⟨kp a hy _, by rw [com]; exact g⟩
      | .defer d, g => exact ⟨kp _ (kd a d hy) _, by rw [com, ← Act.put_defers]; exact g⟩
      | .enter f args, g =>
        refine ⟨g.1, CallsIn.mono g.2 fun e w'' he => ?_⟩
        cases e with
        | returned u => exact ⟨kp a hy u, by rw [com]; exact he⟩
        | panicked c => exact hQ _ _ _ he
        | outgrown => exact he
      | .row row args, g => exact ⟨g.1, RowsIn.mono g.2 fun u w'' he => ⟨kp a hy u, by rw [com]; exact he⟩⟩
      | .round l f tmps assign body, g =>
        refine ⟨g.1, RoundIn.mono g.2 fun e w'' he => ?_⟩
        cases e with
        | returned u => exact ⟨kp a hy u, by rw [com]; exact he⟩
        | panicked c => exact hQ _ _ _ he
        | outgrown => exact he
  · rw [if_neg hw] at h ⊢
    rw [eb] at h
    exact ⟨h.1, kp a hy _, by rw [com]; exact h.2⟩
/-- In every world that meets S the operation leaves v in its slot, does nothing else and makes no call. -/
def YieldsInIf (P : Program) (ops : Array Oper) (S : World → Prop) (o : Oper) (v : Value) (a : Act) : Prop := YieldsIf P ops S o v a ∧ ∀ w, o.about P w a.eval = none
theorem YieldsInIf.op {i : Nat} {o : Oper} {v : Value} {a : Act} (hro : noDefer ops = true) (hi : ops[i]? = some o) (hy : YieldsInIf P ops S o v a) {K : Act → World → Prop} {w : World} (hS : S w) (h : K (a.put o.dst v) w) : wpOpIn F n P ops Q i K a w := by
  have hab : ∀ f, o.about P w a.eval = some f → F.fn f := fun f hf => by rw [hy.2 w] at hf; cases hf
  unfold wpOpIn
  simp only [hi]
  rcases hy.1 with ⟨hw, hv⟩ | ⟨hw, rfl⟩
  · rw [if_pos hw]
    unfold Oper.wpIn
    rw [Oper.semAt_plain F _ _ (noDefer_spec hro hi), hv w hS]
    exact ⟨hab, h⟩
  · rw [if_neg (by rw [hw]; decide)]
    exact ⟨hab, h⟩
def wpAnyInH (F : Fence) (n : Nat) (P : Program) (md : Region.Mode) (ops : Array Oper) (Q : Exit → Act → World → Prop) (S : World → Prop) : Nat → Array Bool → Act → World → Prop
  | 0, listed, a, w => Region.ready md ops listed = [] ∧ Q .normal a w
  | fuel + 1, listed, a, w => (Region.ready md ops listed = [] → Q .normal a w) ∧ ∀ i ∈ Region.ready md ops listed, wpOpIn F n P ops Q i (fun a' w' => S w' ∧ wpAnyInH F n P md ops Q S fuel (listed.setIfInBounds i true) a' w') a w
theorem anyIn_hold (S : World → Prop) : ∀ (fuel : Nat) (listed : Array Bool) (a : Act) (w : World), wpAnyInH F n P md ops Q S fuel listed a w → wpAnyIn F n P md ops Q fuel listed a w
  | 0, _, _, _, h => h
  | fuel + 1, _, _, _, h => ⟨h.1, fun i hi => wpOpIn_mono (fun a' w' h' => anyIn_hold S fuel _ a' w' h'.2) (h.2 i hi)⟩
theorem anyInH_first {i : Nat} {oi : Oper} {v : Value} (hro : noDefer ops = true) (hi : ops[i]? = some oi) (hsel : ∀ (j : Nat) (o : Oper) cs b, ops[j]? = some o → o.op ≠ .select cs b) (hQ : ∀ c a w, Q (.panic c) (a.put oi.dst v) w → Q (.panic c) a w) :
    ∀ (fuel : Nat) (listed : Array Bool) (a : Act) (w : World), (∀ j oj, ops[j]? = some oj → j ≠ i → listed.getD j true = false → (∀ e ∈ oj.after, Region.binds md e = true → e.on ≠ i) → oi.apart ops oj = true) →
      i ∈ Region.ready md ops listed → YieldsInIf P ops S oi v a → S w → wpAnyInH F n P md ops Q S fuel (listed.setIfInBounds i true) (a.put oi.dst v) w → wpAnyInH F n P md ops Q S (fuel + 1) listed a w := by
  intro fuel
  induction fuel with
  | zero =>
    intro listed a w _ hr hy hS H
    refine ⟨fun h => (by rw [h] at hr; cases hr), fun j hj => ?_⟩
    by_cases e : j = i
    · subst e; exact hy.op hro hi hS ⟨hS, H⟩
    · have := ready_mono hj e
      rw [H.1] at this
      cases this
  | succ fuel ih =>
    intro listed a w hfree hr hy hS H
    refine ⟨fun h => (by rw [h] at hr; cases hr), fun j hj => ?_⟩
    by_cases e : j = i
    · subst e; exact hy.op hro hi hS ⟨hS, H⟩
    · obtain ⟨hjun, oj, hoj, hall⟩ := mem_ready.1 hj
      have hnot : ∀ x ∈ oj.after, Region.binds md x = true → x.on ≠ i := fun x hx hb heq => by
        have q1 := hall x hx hb
        have q0 := (mem_ready.1 hr).1
        rw [heq] at q1
        rcases Nat.lt_or_ge i listed.size with h' | h'
        · simp [h'] at q0 q1; rw [q0] at q1; cases q1
        · simp [Array.getElem?_eq_none h'] at q1
      have hap := hfree j oj hoj e hjun hnot
      obtain ⟨h1, h2, h3⟩ := Oper.apart_spec hap
      have kp : ∀ b, YieldsInIf P ops S oi v b → ∀ u, YieldsInIf P ops S oi v (b.put oj.dst u) := fun b q u =>
        ⟨q.1.of_same (execOp_put oi (fun cs b => hsel i oi cs b hi) b oj.dst u h3) (wanted_put oi b oj.dst u h3), fun w => by rw [about_put oi w b oj.dst u h3]; exact q.2 w⟩
      have kd : ∀ (b : Act) d, YieldsInIf P ops S oi v b → YieldsInIf P ops S oi v { b with defers := d :: b.defers } := fun b d q => ⟨q.1.of_same rfl rfl, fun w => q.2 w⟩
      have q2 := opIn_keep (n := n) hro hoj hap (fun cs b => hsel j oj cs b hoj) hQ kp kd hy (H.2 j (ready_mono hj e))
      have hfree' : ∀ k ok, ops[k]? = some ok → k ≠ i → (listed.setIfInBounds j true).getD k true = false → (∀ x ∈ ok.after, Region.binds md x = true → x.on ≠ i) → oi.apart ops ok = true := fun k ok hk hki hun hno => by
        refine hfree k ok hk hki ?_ hno
        by_cases hjk : j = k
        · subst hjk; exact hjun
        · rw [getD_set_ne true hjk] at hun; exact hun
      refine wpOpIn_mono (fun a' w' h3 => ⟨h3.2.1, ih (listed.setIfInBounds j true) a' w' hfree' (ready_mono hr (Ne.symm e)) h3.1 h3.2.1 ?_⟩) q2
      rw [Array.setIfInBounds_comm _ _ e]
      exact h3.2.2
theorem anyInH_take (i d : Nat) {oi : Oper} (v : Value) {fuel : Nat} {listed : Array Bool} {a : Act} {w : World} (hro : noDefer ops = true) (hi : ops[i]? = some oi) (hd : oi.dst = some d)
    (hs : Region.noSelect ops = true) (hf : Region.free md ops listed i = true) (hr : (Region.ready md ops listed).contains i = true)
    (hQ : ∀ c a w, Q (.panic c) (a.put (some d) v) w → Q (.panic c) a w) (hy : YieldsIf P ops S oi v a) (hc : ∀ w, oi.about P w a.eval = none) (hS : S w)
    (h : wpAnyInH F n P md ops Q S fuel (listed.setIfInBounds i true) (a.put (some d) v) w) : wpAnyInH F n P md ops Q S (fuel + 1) listed a w :=
  anyInH_first hro hi (Region.noSelect_spec hs) (by rw [hd]; exact hQ) fuel listed a w (Region.free_spec hi hf) (by simpa using hr) ⟨hy, hc⟩ hS (by rw [hd]; exact h)
theorem anyInH_done {listed : Array Bool} {a : Act} {w : World} (hr : Region.ready md ops listed = []) (h : Q .normal a w) : ∀ fuel, wpAnyInH F n P md ops Q S fuel listed a w
  | 0 => ⟨hr, h⟩
  | _ + 1 => ⟨fun _ => h, by rw [hr]; simp⟩
/-- One operation alone may come now. -/
theorem anyInH_one (i : Nat) {o : Oper} {fuel : Nat} {listed : Array Bool} {a : Act} {w : World} (hr : Region.ready md ops listed = [i]) (ho : ops[i]? = some o) (hw : Region.wanted o (yielded ops a.tmps) = true)
    (h : ∀ K : Act → World → Prop, Shut (∀ a' w', S w' → (S w' → wpAnyInH F n P md ops Q S fuel (listed.setIfInBounds i true) a' w') → K a' w') → Oper.wpIn F n P o a w K Q) : wpAnyInH F n P md ops Q S (fuel + 1) listed a w := by
  refine ⟨fun h0 => (by rw [hr] at h0; cases h0), ?_⟩
  rw [hr]
  intro j hj
  have e : j = i := by simpa using hj
  subst e
  unfold wpOpIn
  simp only [ho]
  rw [if_pos hw]
  exact h _ (fun a' w' h1 h2 => ⟨h1, h2 h1⟩)
/-- The statement, S held. -/
theorem region_heldIn {id : Nat} (S : World → Prop) {a : Act} {w : World} (hm : P.follows .mixedOrders = true) (h : wpAnyInH F n P .any ops Q S ops.size (Array.replicate ops.size false) a w.drew) : (Code.region id ops true).wpIn F n P Q a w :=
  wpIn_region_any hm (anyIn_hold S _ _ _ _ h)
end
end Go.Proofs.Ytpdmpekkmblgmaa
