/-
  Package topo: lists put together; Link, the program's and the document's.
-/
import Derived.Test.YthpdaiaakpimkaaM2
import Derived.OwnWalk
import Derived.WalkSpells
import Derived.Deep.DeepMust
import Derived.Deep.Slices
namespace Go.Proofs.Ythpdaiaakpimkaa
open Go.ChangeShapes Go.WideShapes Go.ChangeAt Go.RowKit
set_option linter.unusedVariables false
set_option linter.unusedSimpArgs false

theorem row_none (w : World) : Row w none 0 0 [] := ⟨rfl, Nat.le_refl _, by unfold maxLen; omega, fun _ => rfl, .inl rfl⟩
/-- What append made, as a list. -/
theorem owns_row {w : World} {base : Nat} {a : Option Addr} {n c : Nat} {l : List Int} (h : w.ownsRow base 3 1 (.slice a n c) n (l.map iv)) : Row w a n c l := by
  have hsz : l.length = n := by simpa using h.1
  have h0 := h
  rcases h.2 with ⟨e, h1⟩ | ⟨g, cap, cur, e, hg, hh, hn, hc, hcs, ht⟩
  · cases e
    exact ⟨hsz, Nat.le_refl _, by unfold maxLen; omega, fun _ => rfl, .inl rfl⟩
  · cases e
    refine ⟨hsz, hn, hc, (fun e => by cases e), .inr ⟨g, 0, rfl, row_lt hh, fun k hk => ?_⟩⟩
    rw [Nat.zero_add, h0.cellAt k (by omega)]
    simp [List.getD, List.getElem?_eq_getElem (show k < l.length by omega)]
theorem owns_slice {w : World} {base : Nat} {v : Value} {n : Nat} {xs : List Value} (h : w.ownsRow base 3 1 v n xs) : ∃ a c, v = .slice a n c := by
  rcases h.2 with ⟨e, h1⟩ | ⟨g, cap, cur, e, _⟩
  · exact ⟨none, 0, by rw [e, h1]⟩
  · exact ⟨_, _, e⟩
theorem run_append_ints {W : World} (ty : TypeId) {base : Nat} {v : Value} {k : Nat} {xs : List Value} (hown : W.ownsRow base 3 1 v k xs) {ad : Option Addr} {m c : Nat} {zs : List Int}
    (R : Row W ad m c zs) (b2 : (k + m) * 8 ≤ 140737488355328) (b3 : base ≤ W.heap.size) :
    ∃ a' c' w', (Builtin.append_ #[22, 22] ty #[v, .slice ad m c]).run Try.prog W = .ok (.slice a' (k + m) c') w' ∧ w'.ownsRow base 3 1 (.slice a' (k + m) c') (k + m) (xs ++ zs.map iv) ∧ W.grownBy w' v.ownBlock := by
  obtain ⟨i0, hi, hz0, hz1, hz2⟩ := info_parts info3
  have h63 : k + m ≤ maxLen := by unfold maxLen; omega
  cases ad with
  | none =>
    have hc := R.nil rfl
    have hm : m = 0 := by have := R.le; omega
    subst hc hm
    have hz : zs = [] := List.eq_nil_of_length_eq_zero R.size
    subst hz
    have hr := run_append_owned_none (P := Try.prog) (w := W) base 22 ty 3 i0 1 Try.underlying22 hi v k xs hown
    obtain ⟨a', c', rfl⟩ := owns_slice hown
    exact ⟨a', c', W, hr, by simpa using hown, ⟨rfl, rfl, rfl, Nat.le_refl _, fun _ _ _ => rfl⟩⟩
  | some ad =>
    have hnews : ∀ j u, (zs.map iv)[j]? = some u → W.cell? (ad.add j) = some u := by
      intro j u hj
      have hjl : j < m := by
        have := (List.getElem?_eq_some_iff.1 hj).1
        have h2 := R.size
        simp at this
        omega
      obtain ⟨b, off, e, hb, hc⟩ := R.mem.resolve_left (by omega)
      cases e
      have h3 := hc j hjl
      have h4 : u = .int .i64 (zs.getD j 0) := by
        have h2 := R.size
        rw [List.getElem?_map, List.getElem?_eq_getElem (show j < zs.length by omega)] at hj
        simp at hj
        rw [← hj, List.getD_eq_getElem?_getD, List.getElem?_eq_getElem (show j < zs.length by omega)]
        rfl
      rw [h4, add_plain]
      exact h3
    obtain ⟨v', w', hrun, r1, r2, r3⟩ := run_append_own (P := Try.prog) W base 22 ty 3 i0 (.int .i64 0) 1 8 Try.underlying22 hi hz0 hz1 hz2 rfl (by decide) v k xs hown ad m c (zs.map iv) (by have := R.size; simp; omega) hnews (by intro u hu; obtain ⟨x, _, rfl⟩ := List.mem_map.1 hu; rfl) h63 b2 b3
    obtain ⟨a', c', rfl⟩ := owns_slice r1
    exact ⟨a', c', w', hrun, r1, r2⟩
theorem wpList_append_ints {w : World} {ops : Array Oper} {rest : List Oper} {o : Oper} {a : Act} {Q : Exit → Act → World → Prop}
    (hg : o.guard = none) (s x : Operand) (hop : o.op = Op.call { callee := Callee.builtin Builtin.append, args := #[s, x], argTypes := #[22, 22] })
    (base : Nat) (v : Value) (k : Nat) (xs : List Value) (hs : a.eval s = v) (hown : w.ownsRow base 3 1 v k xs) (ad : Option Addr) (m c : Nat) (zs : List Int) (hx : a.eval x = .slice ad m c)
    (R : Row w ad m c zs) (b2 : (k + m) * 8 ≤ 140737488355328) (b3 : base ≤ w.heap.size)
    (hK : ∀ a' c' w', w'.ownsRow base 3 1 (.slice a' (k + m) c') (k + m) (xs ++ zs.map iv) → w.grownBy w' v.ownBlock →
      wpList Try.prog ops Q rest (a.put o.dst (.slice a' (k + m) c')) w') :
    wpList Try.prog ops Q (o :: rest) a w := by
  refine wpList_plain hg fun K hK' => ?_
  obtain ⟨a', c', w', hrun, r1, r2⟩ := run_append_ints o.type hown R b2 b3
  unfold Oper.wp
  simp [execOp, hop, resolve, invoke, builtin, hs, hx, hrun, Result.andThen]
  exact hK' _ _ (hK a' c' w' r1 r2)
set_option maxRecDepth 100000 in
theorem own_any (a : Option Addr) (len cap : Nat) (zs : List Int) (w : World) (R : Row w a len cap zs) (hl : len ≤ 100000) : Calls Try.prog 29 #[.slice a len cap] w fun e w' => ∃ a' c', e = .returned (.slice a' len c') ∧ w'.ownsRow w.heap.size 3 1 (.slice a' len c') len (zs.map iv) ∧ Below w.heap.size w w' := by
  have HL : Hid (len ≤ 100000) := hl
  clear hl
  go_enter Try.func29, Try.ntmps29
  go_wp2_with ((with_reducible show wpList _ _ _ (Oper.mk _ (Op.call { callee := Callee.builtin Builtin.append, args := _, argTypes := #[22, 22] }) _ _ _ _ :: _) _ _); go_must (refine wpList_append_ints rfl _ _ rfl w.heap.size (.slice none 0 0) 0 [] rfl (World.ownsRow_nil _ _ _ _) a len cap zs rfl R (by have := HL.out; omega) (Nat.le_refl _) ?_; intro a' c' w1 O1 r1))
  simp only [Nat.zero_add, List.nil_append] at O1
  try simp only [Nat.zero_add]
  go_ret
  exact ⟨_, _, rfl, O1, (Below.refl _ w).grown r1 (Nat.le_refl _) (fun j e => by cases e)⟩
set_option maxRecDepth 100000 in
theorem rcopied_any (a : Option Addr) (len cap : Nat) (zs : List Int) (w : World) (R : Row w a len cap zs) (hl : len ≤ 100000) : Calls Try.prog 30 #[.slice a len cap] w fun e w' => ∃ a' c', e = .returned (.slice a' len c') ∧ w'.ownsRow w.heap.size 3 1 (.slice a' len c') len (zs.map iv) ∧ Below w.heap.size w w' := by
  have HL : Hid (len ≤ 100000) := hl
  clear hl
  go_enter Try.func30, Try.ntmps30
  go_wp2_with ((with_reducible show wpList _ _ _ (Oper.mk _ (Op.call { callee := Callee.builtin Builtin.append, args := _, argTypes := #[22, 22] }) _ _ _ _ :: _) _ _); go_must (refine wpList_append_ints rfl _ _ rfl w.heap.size (.slice none 0 0) 0 [] rfl (World.ownsRow_nil _ _ _ _) a len cap zs rfl R (by have := HL.out; omega) (Nat.le_refl _) ?_; intro a' c' w1 O1 r1))
  simp only [Nat.zero_add, List.nil_append] at O1
  try simp only [Nat.zero_add]
  go_ret
  exact ⟨_, _, rfl, O1, (Below.refl _ w).grown r1 (Nat.le_refl _) (fun j e => by cases e)⟩
set_option maxRecDepth 100000 in
theorem copied_any (a : Option Addr) (len cap : Nat) (zs : List Int) (w : World) (R : Row w a len cap zs) (hl : len ≤ 100000) : Calls Try.prog 10 #[.slice a len cap] w fun e w' => ∃ a' c', e = .returned (.slice a' len c') ∧ w'.ownsRow w.heap.size 3 1 (.slice a' len c') len (zs.map iv) ∧ Below w.heap.size w w' := by
  have HL : Hid (len ≤ 100000) := hl
  clear hl
  go_enter Try.func10, Try.ntmps10
  go_wp2_with ((with_reducible show wpList _ _ _ (Oper.mk _ (Op.call { callee := Callee.builtin Builtin.append, args := _, argTypes := #[22, 22] }) _ _ _ _ :: _) _ _); go_must (refine wpList_append_ints rfl _ _ rfl w.heap.size (.slice none 0 0) 0 [] rfl (World.ownsRow_nil _ _ _ _) a len cap zs rfl R (by have := HL.out; omega) (Nat.le_refl _) ?_; intro a' c' w1 O1 r1))
  simp only [Nat.zero_add, List.nil_append] at O1
  try simp only [Nat.zero_add]
  go_ret
  exact ⟨_, _, rfl, O1, (Below.refl _ w).grown r1 (Nat.le_refl _) (fun j e => by cases e)⟩
/-- What Link answers: the list, and why not. -/
def lnk (id : Int) (l : List Int) (v : Int) : List Int × Int := if rf id l v = 0 then (l ++ [v], 0) else (l, rf id l v)
set_option maxRecDepth 100000 in
set_option maxHeartbeats 2000000 in
theorem link_any (id : Int) (a : Option Addr) (len cap : Nat) (zs : List Int) (v : Int) (w : World) (R : Row w a len cap zs) (hl : len ≤ 10000) : Calls Try.prog 11 #[.int .i64 id, .slice a len cap, .int .i64 v] w fun e w' => ∃ a' c', e = .returned (.tuple #[.slice a' (lnk id zs v).1.length c', .int .i64 (lnk id zs v).2]) ∧ Row w' a' (lnk id zs v).1.length c' (lnk id zs v).1 ∧ Below w.heap.size w w' := by
  have HL : Hid (len ≤ 10000) := hl
  have HS : Hid (zs.length = len) := R.size
  have K1 := refusal_any id a len cap zs v w R
  have K2 := own_any a len cap zs w R (by omega)
  clear R hl
  unfold lnk
  by_cases h : rf id zs v = 0
  · rw [if_pos h]
    rw [h] at K1
    clear h
    rw [show (zs ++ [v]).length = len + 1 from by simp [HS.out]]
    go_enter Try.func11, Try.ntmps11
    go_wp2_with (first
      | (go_at_call 26; refine K1.mono ?_; clear K1; rintro e w1 ⟨rfl, hw⟩; rw [hw]; clear hw w1)
      | (go_at_call 29; refine K2.mono ?_; clear K2; rintro e w1 ⟨a1, c1, rfl, O1, B1⟩)
      | ((with_reducible show wpList _ _ _ (Oper.mk _ (Op.call { callee := Callee.builtin Builtin.append, args := _, argTypes := #[22, 22] }) _ _ _ _ :: _) _ _); go_must (refine wpList_append_int rfl _ _ rfl w.heap.size _ len (zs.map iv) rfl (O1.alloc _) ⟨w1.heap.size, 0, none⟩ v rfl (cell_one_new _ _ _) (by have := HL.out; omega) (by have := B1.size; simp; omega) ?_; intro g3 c3 w3 O3 r3)))
    refine bodyPost_ret (v := .tuple #[.slice (some ⟨g3, 0, none⟩) (len + 1) c3, .int .i64 0]) (by simp [results, Try.results11, go_sem]) rfl ?_
    refine ⟨_, _, rfl, owns_row (base := w.heap.size) (by simpa using O3), (B1.alloc B1.size _).grown r3 (by have := B1.size; simp; omega) (fun j e => (O1.lt j e).1)⟩
  · rw [if_neg h]
    rw [show zs.length = len from HS.out]
    obtain ⟨r, hr⟩ : ∃ r, rf id zs v = r := ⟨_, rfl⟩
    rw [hr] at K1 h
    have hb : (r != 0) = true := by simpa using h
    rw [hr]
    clear h hr
    go_enter Try.func11, Try.ntmps11
    go_wp2_with (first
      | (go_at_call 26; refine K1.mono ?_; clear K1; rintro e w1 ⟨rfl, hw⟩; rw [hw]; clear hw w1)
      | (go_at_call 29; refine K2.mono ?_; clear K2; rintro e w1 ⟨a1, c1, rfl, O1, B1⟩))
    exact bodyPost_ret (v := .tuple #[.slice a1 len c1, .int .i64 r]) (by simp [results, Try.results11, go_sem]) rfl ⟨_, _, rfl, owns_row O1, B1⟩
set_option maxRecDepth 100000 in
set_option maxHeartbeats 2000000 in
theorem rlink_any (id : Int) (a : Option Addr) (len cap : Nat) (zs : List Int) (v : Int) (w : World) (R : Row w a len cap zs) (hl : len ≤ 10000) : Calls Try.prog 12 #[.int .i64 id, .slice a len cap, .int .i64 v] w fun e w' => ∃ a' c', e = .returned (.tuple #[.slice a' (lnk id zs v).1.length c', .int .i64 (lnk id zs v).2]) ∧ Row w' a' (lnk id zs v).1.length c' (lnk id zs v).1 ∧ Below w.heap.size w w' := by
  have HL : Hid (len ≤ 10000) := hl
  have HS : Hid (zs.length = len) := R.size
  have K1 := fun w => rnode_any v w
  have K2 := rcopied_any a len cap zs w R (by omega)
  clear R hl
  by_cases h1 : nd v = false
  · rw [show lnk id zs v = (zs, 40) from by unfold lnk rf; rw [if_pos h1, if_neg (by decide)]]
    rw [show zs.length = len from HS.out]
    simp only [h1] at K1
    clear h1
    go_enter Try.func12, Try.ntmps12
    go_wp2_with (first
      | (go_at_call 30; refine K2.mono ?_; clear K2; rintro e w1 ⟨a1, c1, rfl, O1, B1⟩; have R1 := owns_row O1; have K3 := rhas_any a1 len c1 zs v w1 R1; clear R1)
      | (go_at_call 27; refine (K1 _).mono ?_; clear K1; rintro e w2 ⟨rfl, hw⟩; rw [hw]; clear hw w2))
    refine bodyPost_ret (v := .tuple #[.slice a1 len c1, .int .i64 40]) (by simp [results, Try.results12, go_sem]) rfl ?_
    exact ⟨_, _, rfl, owns_row O1, B1⟩
  · have h1' : nd v = true := by simpa using h1
    simp only [h1'] at K1
    by_cases h2 : v = id
    · rw [show lnk id zs v = (zs, 41) from by unfold lnk rf; rw [if_neg h1, if_pos h2, if_neg (by decide)]]
      rw [show zs.length = len from HS.out]
      have h2b : (v == id) = true := by simpa using h2
      clear h1 h1' h2
      go_enter Try.func12, Try.ntmps12
      go_wp2_with (first
        | (go_at_call 30; refine K2.mono ?_; clear K2; rintro e w1 ⟨a1, c1, rfl, O1, B1⟩; have R1 := owns_row O1; have K3 := rhas_any a1 len c1 zs v w1 R1; clear R1)
        | (go_at_call 27; refine (K1 _).mono ?_; clear K1; rintro e w2 ⟨rfl, hw⟩; rw [hw]; clear hw w2))
      refine bodyPost_ret (v := .tuple #[.slice a1 len c1, .int .i64 41]) (by simp [results, Try.results12, go_sem]) rfl ?_
      exact ⟨_, _, rfl, owns_row O1, B1⟩
    · have h2b : (v == id) = false := by simpa using h2
      by_cases h3 : hs v zs = true
      · rw [show lnk id zs v = (zs, 42) from by unfold lnk rf; rw [if_neg h1, if_neg h2, if_pos h3, if_neg (by decide)]]
        rw [show zs.length = len from HS.out]
        have hh := h3
        clear h1 h1' h2 h3
        go_enter Try.func12, Try.ntmps12
        go_wp2_with (first
          | (go_at_call 30; refine K2.mono ?_; clear K2; rintro e w1 ⟨a1, c1, rfl, O1, B1⟩; have R1 := owns_row O1; have K3 := rhas_any a1 len c1 zs v w1 R1; clear R1)
          | (go_at_call 27; refine (K1 _).mono ?_; clear K1; rintro e w2 ⟨rfl, hw⟩; rw [hw]; clear hw w2)
          | (go_at_call 15; refine (K3).mono ?_; clear K3; rintro e w2 ⟨rfl, hw⟩; rw [hw, hh]; clear hw w2))
        refine bodyPost_ret (v := .tuple #[.slice a1 len c1, .int .i64 42]) (by simp [results, Try.results12, go_sem]) rfl ?_
        exact ⟨_, _, rfl, owns_row O1, B1⟩
      · have hh : hs v zs = false := by simpa using h3
        by_cases h4 : 6 ≤ len
        · have h4' : 6 ≤ zs.length := by rw [HS.out]; exact h4
          rw [show lnk id zs v = (zs, 43) from by unfold lnk rf; rw [if_neg h1, if_neg h2, if_neg h3, if_pos h4', if_neg (by decide)]]
          rw [show zs.length = len from HS.out]
          have h4I : (6 : Int) ≤ (len : Int) := by omega
          clear h1 h1' h2 h3 h4 h4'
          go_enter Try.func12, Try.ntmps12
          go_wp2_with (first
            | (go_at_call 30; refine K2.mono ?_; clear K2; rintro e w1 ⟨a1, c1, rfl, O1, B1⟩; have R1 := owns_row O1; have K3 := rhas_any a1 len c1 zs v w1 R1; clear R1)
            | (go_at_call 27; refine (K1 _).mono ?_; clear K1; rintro e w2 ⟨rfl, hw⟩; rw [hw]; clear hw w2)
            | (go_at_call 15; refine (K3).mono ?_; clear K3; rintro e w2 ⟨rfl, hw⟩; rw [hw, hh]; clear hw w2))
          refine bodyPost_ret (v := .tuple #[.slice a1 len c1, .int .i64 43]) (by simp [results, Try.results12, go_sem]) rfl ?_
          exact ⟨_, _, rfl, owns_row O1, B1⟩
        · have h4' : ¬ 6 ≤ zs.length := by rw [HS.out]; exact h4
          rw [show lnk id zs v = (zs ++ [v], 0) from by unfold lnk rf; rw [if_neg h1, if_neg h2, if_neg h3, if_neg h4', if_pos rfl]]
          rw [show (zs ++ [v]).length = len + 1 from by simp [HS.out]]
          have h4I : ¬ (6 : Int) ≤ (len : Int) := by omega
          clear h1 h1' h2 h3 h4 h4'
          go_enter Try.func12, Try.ntmps12
          go_wp2_with (first
            | (go_at_call 30; refine K2.mono ?_; clear K2; rintro e w1 ⟨a1, c1, rfl, O1, B1⟩; have R1 := owns_row O1; have K3 := rhas_any a1 len c1 zs v w1 R1; clear R1)
            | (go_at_call 27; refine (K1 _).mono ?_; clear K1; rintro e w2 ⟨rfl, hw⟩; rw [hw]; clear hw w2)
            | (go_at_call 15; refine (K3).mono ?_; clear K3; rintro e w2 ⟨rfl, hw⟩; rw [hw, hh]; clear hw w2)
            | ((with_reducible show wpList _ _ _ (Oper.mk _ (Op.call { callee := Callee.builtin Builtin.append, args := _, argTypes := #[22, 22] }) _ _ _ _ :: _) _ _); go_must (refine wpList_append_int rfl _ _ rfl w.heap.size _ len (zs.map iv) rfl (O1.alloc _) ⟨w1.heap.size, 0, none⟩ v rfl (cell_one_new _ _ _) (by have := HL.out; omega) (by have := B1.size; simp; omega) ?_; intro g3 c3 w3 O3 r3)))
          refine bodyPost_ret (v := .tuple #[.slice (some ⟨g3, 0, none⟩) (len + 1) c3, .int .i64 0]) (by simp [results, Try.results12, go_sem]) rfl ?_
          exact ⟨_, _, rfl, owns_row (base := w.heap.size) (by simpa using O3), (B1.alloc B1.size _).grown r3 (by have := B1.size; simp; omega) (fun j e => (O1.lt j e).1)⟩
end Go.Proofs.Ythpdaiaakpimkaa
