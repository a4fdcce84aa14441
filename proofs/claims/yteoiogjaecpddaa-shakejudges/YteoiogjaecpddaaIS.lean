/-
  What was seen: stretches of a list, and a list that grows by what may be read.
-/
import Derived.Test.YteoiogjaecpddaaMS
namespace Go.Proofs.Yteoiogjaecpddaa
open Go.ChangeShapes Go.WideShapes Go.ChangeAt Go.RowKit
set_option linter.unusedVariables false
set_option linter.unusedSimpArgs false

/-- append(own, list...). -/
theorem run_grow_lstS {W : World} {base k : Nat} {v : Value} {es : List SN} {a : Option Addr} {n c : Nat} {ds : List SN} (ty : TypeId) (hown : W.ownsRow base 33 4 v k (csS es)) (L : RdS W a n c ds) (hn : ((k + n) + (k + n) / 4 + 192) * 32 ≤ 281474976710656) (hb : base ≤ W.heap.size) :
    ∃ v' w', (Builtin.append_ #[22, 22] ty #[v, .slice a n c]).run Try.prog W = .ok v' w' ∧ w'.ownsRow base 33 4 v' (k + n) (csS (es ++ ds)) ∧ W.grownBy w' v.ownBlock ∧ Below base W w' := by
  obtain ⟨i0, hi, hz0, hz1, hz2⟩ := info_parts info33
  rcases L.mem with ⟨rfl, rfl, rfl⟩ | ⟨rfl, x, rfl⟩ | ⟨g, off, rfl, hg, hr⟩
  · have e := List.eq_nil_of_length_eq_zero L.size
    subst e
    rw [List.append_nil, Nat.add_zero]
    exact ⟨v, W, run_append_owned_none (P := Try.prog) (w := W) base 22 ty 33 i0 4 Try.underlying22 hi v k (csS es) hown, hown, World.grownBy.refl _ _, Below.refl _ _⟩
  · have e := List.eq_nil_of_length_eq_zero L.size
    subst e
    exact run_more_lstS ty hown rfl (fun j u hu => by cases hu) hn hb
  · exact run_more_lstS ty hown L.size (fun j u hu => by rw [add_plain]; exact hr j u hu) hn hb
/-- The first ones of a list. -/
theorem RdS.to {W : World} {a : Option Addr} {n cap : Nat} {ds : List SN} (L : RdS W a n cap ds) (k : Nat) (hk : k ≤ n) : RdS W a k cap (ds.take k) := by
  have hs := L.size
  have hm := L.max
  refine ⟨by rw [List.length_take]; omega, by have := L.le; omega, by omega, ?_⟩
  rcases L.mem with ⟨rfl, rfl, rfl⟩ | ⟨rfl, x, rfl⟩ | ⟨g, off, rfl, hg, hr⟩
  · exact .inl ⟨rfl, by omega, rfl⟩
  · exact .inr (.inl ⟨by omega, x, rfl⟩)
  · refine .inr (.inr ⟨g, off, rfl, hg, fun j u hu => ?_⟩)
    rw [csS_take, List.getElem?_take] at hu
    split at hu
    · exact hr j u hu
    · cases hu
/-- Those from a place on. -/
theorem RdS.from {W : World} {a : Option Addr} {n cap : Nat} {ds : List SN} (L : RdS W a n cap ds) (k : Nat) (hk : k ≤ n) : RdS W (if cap = k then a else a.map (·.add (k * 4))) (n - k) (cap - k) (ds.drop k) := by
  have hs := L.size
  have hm := L.max
  have hc := L.le
  refine ⟨by rw [List.length_drop]; omega, by omega, by omega, ?_⟩
  rcases L.mem with ⟨rfl, rfl, rfl⟩ | ⟨rfl, x, rfl⟩ | ⟨g, off, rfl, hg, hr⟩
  · exact .inl ⟨by simp, by omega, by omega⟩
  · refine .inr (.inl ⟨by omega, ?_⟩)
    split
    · exact ⟨x, rfl⟩
    · exact ⟨_, rfl⟩
  · by_cases e : cap = k
    · rw [if_pos e]
      exact .inr (.inl ⟨by omega, _, rfl⟩)
    · rw [if_neg e]
      refine .inr (.inr ⟨g, off + k * 4, by rw [Option.map_some, add_plain], hg, fun j u hu => ?_⟩)
      rw [csS_drop, List.getElem?_drop] at hu
      have := hr _ u hu
      rw [show off + k * 4 + j = off + (4 * k + j) by omega]
      exact this
section
variable {ops : Array Oper} {rest : List Oper} {o : Oper} {A : Act} {W : World} {Q : Exit → Act → World → Prop} {K : Act → World → Prop}
theorem wp_grow_lstS (s x : Operand) (ho : o.op = .call { callee := .builtin .append, args := #[s, x], argTypes := #[22, 22] }) {base k : Nat} {v : Value} {es : List SN} {a : Option Addr} {n c : Nat} {ds : List SN}
    (hs : A.eval s = v) (hx : A.eval x = .slice a n c) (hown : W.ownsRow base 33 4 v k (csS es)) (L : RdS W a n c ds) (hn : ((k + n) + (k + n) / 4 + 192) * 32 ≤ 281474976710656) (hb : base ≤ W.heap.size)
    (h : ∀ v' w', w'.ownsRow base 33 4 v' (k + n) (csS (es ++ ds)) → W.grownBy w' v.ownBlock → Below base W w' → K (A.put o.dst v') w') : o.wp Try.prog A W K Q := by
  obtain ⟨v', w', hrun, r1, r2, r3⟩ := run_grow_lstS o.type hown L hn hb
  unfold Oper.wp
  simp [execOp, ho, resolve, invoke, builtin, hs, hx, hrun, Result.andThen]
  exact h v' w' r1 r2 r3
theorem wpList_grow_lstS (hgd : o.guard = none) (s x : Operand) (ho : o.op = .call { callee := .builtin .append, args := #[s, x], argTypes := #[22, 22] }) {base k : Nat} {v : Value} {es : List SN} {a : Option Addr} {n c : Nat} {ds : List SN}
    (hs : A.eval s = v) (hx : A.eval x = .slice a n c) (hown : W.ownsRow base 33 4 v k (csS es)) (L : RdS W a n c ds) (hn : ((k + n) + (k + n) / 4 + 192) * 32 ≤ 281474976710656) (hb : base ≤ W.heap.size)
    (h : ∀ v' w', w'.ownsRow base 33 4 v' (k + n) (csS (es ++ ds)) → W.grownBy w' v.ownBlock → Below base W w' → wpList Try.prog ops Q rest (A.put o.dst v') w') : wpList Try.prog ops Q (o :: rest) A W :=
  wpList_plain hgd fun _ hK => wp_grow_lstS s x ho hs hx hown L hn hb fun v' w' h1 h2 h3 => hK _ _ (h v' w' h1 h2 h3)
theorem exec_toS {ρ : Operand → Value} {x y : Operand} (ho : o.op = .slice 22 x none (some y) none) {a : Option Addr} {n cap k : Nat} (hx : ρ x = .slice a n cap) (hy : ρ y = .int .i64 (k : Int)) (hk : k ≤ cap) : (execOp ρ o).run Try.prog W = .ok (.value (.slice a k cap)) W := by
  have hz : (sizeOf (Try.prog.elem 22)).run Try.prog W = .ok 4 W := by kernel_rfl
  have hu : Try.prog.underlying 22 = some (.slice (Try.prog.elem 22)) := by kernel_rfl
  have h0 : (if cap = 0 then a else a.map (·.add (0 * 4))) = a := by
    split
    · rfl
    · cases a with
      | none => rfl
      | some x => obtain ⟨b, o, s⟩ := x; cases s <;> simp [Addr.add]
  simp only [execOp, ho, hx, hy, Option.map_none, Option.map_some, Sem.run_bind, run_sliceAt_slice _ _ _ _ _ _ hu, run_slice_h W 22 a n cap hu .i64 (k : Int) (by omega) (by omega), hz, Result.andThen_ok, sliced, Int.toNat_natCast, Nat.sub_zero, h0]
  rfl
theorem exec_fromS {ρ : Operand → Value} {x y : Operand} (ho : o.op = .slice 22 x (some y) none none) {a : Option Addr} {n cap k : Nat} (hx : ρ x = .slice a n cap) (hy : ρ y = .int .i64 (k : Int)) (hk : k ≤ n) : (execOp ρ o).run Try.prog W = .ok (.value (.slice (if cap = k then a else a.map (·.add (k * 4))) (n - k) (cap - k))) W := by
  have hz : (sizeOf (Try.prog.elem 22)).run Try.prog W = .ok 4 W := by kernel_rfl
  have hu : Try.prog.underlying 22 = some (.slice (Try.prog.elem 22)) := by kernel_rfl
  simp only [execOp, ho, hx, hy, Option.map_none, Option.map_some, Sem.run_bind, run_sliceAt_slice _ _ _ _ _ _ hu, run_slice_l W 22 a n cap hu .i64 (k : Int) (by omega) (by omega), hz, Result.andThen_ok, sliced, Int.toNat_natCast]
  rfl
theorem wpList_toS (hgd : o.guard = none) (x y : Operand) (ho : o.op = .slice 22 x none (some y) none) {a : Option Addr} {n cap k : Nat} (hx : A.eval x = .slice a n cap) (hy : A.eval y = .int .i64 (k : Int)) (hk : k ≤ cap)
    (h : wpList Try.prog ops Q rest (A.put o.dst (.slice a k cap)) W) : wpList Try.prog ops Q (o :: rest) A W := by
  refine wpList_plain hgd fun K hK => ?_
  unfold Oper.wp
  rw [exec_toS ho hx hy hk]
  exact hK _ _ h
theorem wpList_fromS (hgd : o.guard = none) (x y : Operand) (ho : o.op = .slice 22 x (some y) none none) {a : Option Addr} {n cap k : Nat} (hx : A.eval x = .slice a n cap) (hy : A.eval y = .int .i64 (k : Int)) {ds : List SN} (L : RdS W a n cap ds) (hk : k ≤ n)
    (h : ∀ a', RdS W a' (n - k) (cap - k) (ds.drop k) → wpList Try.prog ops Q rest (A.put o.dst (.slice a' (n - k) (cap - k))) W) : wpList Try.prog ops Q (o :: rest) A W := by
  refine wpList_plain hgd fun K hK => ?_
  unfold Oper.wp
  rw [exec_fromS ho hx hy hk]
  exact hK _ _ (h _ (L.from k hk))
end
end Go.Proofs.Yteoiogjaecpddaa
