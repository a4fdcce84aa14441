/-
  Package dir: records pulled from a list, one after another.
-/
import Derived.Test.YtoeebofappbneaaGreatP1
import Derived.Test.YtoeebofappbneaaGreatU0
namespace Go.Proofs.YtoeebofappbneaaGreat
open Go.ChangeShapes Go.WideShapes Go.ChangeAt Go.RowKit
set_option linter.unusedVariables false
set_option linter.unusedSimpArgs false

/-- Where a list stands behind a pull. -/
def nx (n i : Nat) : Nat := if i < n then i + 1 else i
theorem set_same {α : Type} : ∀ {L : List α} {p : Nat} {x : α}, L[p]? = some x → L.set p x = L
  | [], _, _, h => by cases h
  | a :: L, 0, x, h => by cases h; rfl
  | a :: L, p + 1, x, h => by rw [List.set_cons_succ, set_same (by simpa using h)]
section
variable {N : Nat} {C : Nat → Prop} {w W : World} {L : List Blk}
theorem mkpull_any (M : MemG N C w W L) (a : Option Addr) (n cap : Nat) : Calls Tryz.prog 114 #[.slice a n cap] W fun e W' => ∃ ka ks, e = .returned (.func (.func 119) #[] #[.pointer (some ⟨ka, 0, none⟩), .pointer (some ⟨ks, 0, none⟩)]) ∧ MemG N C w W' ((ka, #[.int .i64 0], 3) :: (ks, #[.slice a n cap], 44) :: L) := by
  have M2 := (M.add #[.slice a n cap] 44).add #[.int .i64 0] 3
  rw [World.size_alloc] at M2
  go_enter Tryz.func114, Tryz.ntmps114
  go_wp2
  go_ret
  exact ⟨_, _, rfl, M2⟩
set_option maxRecDepth 100000 in
set_option maxHeartbeats 4000000 in
theorem pull_any (M : MemG N C w W L) (p q ka ks i : Nat) (a : Option Addr) (n cap : Nat) (l : List CH) (hp : L[p]? = some (ka, #[.int .i64 (i : Int)], 3)) (hq : L[q]? = some (ks, #[.slice a n cap], 44))
    (w0 : World) (hr : RdC w0 a n cap l) (hb : Below w0.heap.size w0 w) (hN : w0.heap.size ≤ N) (hi : i ≤ n) :
    Calls Tryz.prog 119 #[.pointer (some ⟨ka, 0, none⟩), .pointer (some ⟨ks, 0, none⟩)] W fun e W' => e = .returned (.agg (fcs l[i]?)) ∧ MemG N C w W' (L.set p (ka, #[.int .i64 (nx n i : Nat)], 3)) := by
  have HN : Hid (n ≤ 140737488355328) := hr.small
  have HL : Hid (l.length = n) := hr.size
  have m1 := List.mem_of_getElem? hp
  have m2 := List.mem_of_getElem? hq
  by_cases h : i = n
  case pos =>
    have HV : Hid (fcs l[i]? = zF) := by show _ = _; rw [List.getElem?_eq_none (by rw [HL.out]; omega)]; rfl
    have HX : Hid (L.set p (ka, #[.int .i64 (nx n i : Nat)], 3) = L) := by show _ = _; unfold nx; rw [if_neg (by omega)]; exact set_same hp
    have hb1 : ((i : Int) == (n : Int)) = true := by simp; omega
    rw [HV.out, HX.out]
    clear h HV HX hp hq
    have m3 := m1
    have m4 := m2
    go_enter Tryz.func119, Tryz.ntmps119
    go_wp2_with (first
      | ((with_reducible show wpList _ _ _ (Oper.mk (some 2) (Op.alloc 125) _ _ _ _ :: _) _ _); refine wpList_alloc M rfl rfl rt68 ?_; clear M; intro k2 W M)
      | ((with_reducible show wpList _ _ _ (Oper.mk _ (Op.load 3 _) _ _ _ _ :: _) _ _); refine wpList_cell3 M (by rfl) _ rfl _ rfl (by first | exact .tail _ m1 | exact .tail _ m3) rfl ?_)
      | ((with_reducible show wpList _ _ _ (Oper.mk _ (Op.load 44 _) _ _ _ _ :: _) _ _); refine wpList_cell24 M (by rfl) _ rfl _ _ _ rfl (by first | exact .tail _ m2 | exact .tail _ m4) rfl ?_)
      | ((with_reducible show wpList _ _ _ (Oper.mk _ (Op.store 125 _ _) _ _ _ _ :: _) _ _); refine wpList_put M rfl _ _ rfl rt68 0 _ rfl rfl rfl rfl rfl (by simp [Value.oneCell']) ?_; clear M; intro W M; simp only [List.set_cons_zero, List.set_cons_succ] at M))
    refine bodyPost_ret (results_row1 rfl _ _ k2 _ rfl (load_row (M.get (.head _)) rt68 rfl)) rfl ⟨rfl, M.tail⟩
  case neg =>
    have hin : i < n := by omega
    have hb1 : ((i : Int) == (n : Int)) = false := by simp; omega
    have hw1 : IntKind.i64.wrap ((i : Int) + 1) = (i : Int) + 1 := by rw [IntKind.wrap_i64]; have := HN.out; omega
    have hw2 : IntKind.i64.wrap ((i : Int) + 1 - 1) = (i : Int) := by rw [IntKind.wrap_i64]; have := HN.out; omega
    have hw3 : wrap64 (i : Int) = (i : Int) := by have h9 := hw2; rw [show (i : Int) + 1 - 1 = (i : Int) by omega] at h9; first | exact h9 | simpa using h9 | (unfold wrap64; have := HN.out; omega)
    have hiI : (i : Int) < (n : Int) := by omega
    have hpl : p < L.length := (List.getElem?_eq_some_iff.1 hp).1
    have hpq : p ≠ q := fun e => by rw [e, hq] at hp; cases hp
    have m3 : (ka, #[.int .i64 ((i : Int) + 1)], 3) ∈ L.set p (ka, #[.int .i64 ((i : Int) + 1)], 3) := List.mem_of_getElem? (List.getElem?_set_self hpl)
    have m4 : (ks, #[.slice a n cap], 44) ∈ L.set p (ka, #[.int .i64 ((i : Int) + 1)], 3) := List.mem_of_getElem? ((List.getElem?_set_ne hpq).trans hq)
    obtain ⟨b, off, rfl, hb2, hd, hra⟩ := hr.at i hin
    obtain ⟨⟨nm, ep, mr, al, kd, sc⟩, hri⟩ : ∃ r, l.getD i CH.z = r := ⟨_, rfl⟩
    rw [hri] at hra hd
    have HV : Hid (fcs l[i]? = #[.int .i64 ep, .int .i64 mr, .string nm, .bool al, .int .i64 kd, .int .i64 sc, .bool true]) := by show _ = _; rw [hd]; rfl
    have HX : Hid (((nx n i : Nat) : Int) = (i : Int) + 1) := by show _ = _; unfold nx; rw [if_pos hin]; omega
    have KR : ∀ X, Same N C w X → X.rangeAt b (off + i * 6) (CH.cells ⟨nm, ep, mr, al, kd, sc⟩) := fun X h => range_later hra hb2 (Below.same hb h hN (Nat.le_refl _))
    have K := fun w => of_any nm ep mr al kd sc w
    rw [HV.out, HX.out]
    clear h HV HX hq hri hd hra hin hpq
    go_enter Tryz.func119, Tryz.ntmps119
    go_wp2_with (first
      | ((with_reducible show wpList _ _ _ (Oper.mk (some 2) (Op.alloc 125) _ _ _ _ :: _) _ _); refine wpList_alloc M rfl rfl rt68 ?_; clear M; intro k2 W M)
      | ((with_reducible show wpList _ _ _ (Oper.mk _ (Op.load 3 _) _ _ _ _ :: _) _ _); refine wpList_cell3 M (by rfl) _ rfl _ rfl (by first | exact .tail _ m1 | exact .tail _ m3) rfl ?_)
      | ((with_reducible show wpList _ _ _ (Oper.mk _ (Op.load 44 _) _ _ _ _ :: _) _ _); refine wpList_cell24 M (by rfl) _ rfl _ _ _ rfl (by first | exact .tail _ m2 | exact .tail _ m4) rfl ?_)
      | ((with_reducible show wpList _ _ _ (Oper.mk _ (Op.store 3 _ _) _ _ _ _ :: _) _ _); refine wpList_set3 M rfl _ _ rfl (p + 1) _ _ (by rw [List.getElem?_cons_succ]; exact hp) rfl rfl rfl ?_; clear M; intro W M; simp only [List.set_cons_zero, List.set_cons_succ, List.setIfInBounds_toArray] at M; clear m1 m2)
      | ((with_reducible show wpList _ _ _ (Oper.mk _ (Op.load 47 (Operand.tmp 13)) _ _ _ _ :: _) _ _); refine wpList_load23w (by rfl) _ rfl b (off + i * 6) nm ep mr al kd sc rfl (KR _ M.same) ?_)
      | (go_at_call 52; refine (K _).mono ?_; clear K; rintro e w1 ⟨rfl, b1⟩; replace M := M.later b1; clear b1)
      | ((with_reducible show wpList _ _ _ (Oper.mk _ (Op.store 125 _ _) _ _ _ _ :: _) _ _); refine wpList_put M rfl _ _ rfl rt68 0 _ rfl rfl rfl rfl rfl (by simp [Value.oneCell']) ?_; clear M; intro W M; simp only [List.set_cons_zero, List.set_cons_succ] at M))
    refine bodyPost_ret (results_row1 rfl _ _ k2 _ rfl (load_row (M.get (.head _)) rt68 rfl)) rfl ⟨rfl, M.tail⟩
end
theorem byname_any (a a' : Option Addr) (n n' cap cap' : Nat) (w : World) : Calls Tryz.prog 105 #[.slice a n cap, .slice a' n' cap'] w fun e w' => e = .returned (.func (.func 113) #[] #[.pointer (some ⟨w.heap.size, 0, none⟩), .pointer (some ⟨w.heap.size + 1, 0, none⟩)]) ∧ w' = (w.alloc (.cells #[.slice a n cap] 44)).alloc (.cells #[.slice a' n' cap'] 44) := by
  go_enter Tryz.func105, Tryz.ntmps105
  go_wp2
  go_ret
  exact ⟨rfl, rfl⟩
end Go.Proofs.YtoeebofappbneaaGreat
