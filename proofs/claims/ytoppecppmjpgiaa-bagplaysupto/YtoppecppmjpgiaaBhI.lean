/-
  Package bag: the document's Put and Double, whatever comes.
-/
import Derived.Test.YtoppecppmjpgiaaBhH
namespace Go.Proofs.Ytoppecppmjpgiaa
open Go.ChangeShapes Go.WideShapes Go.ChangeAt Go.RowKit Go.Maps
set_option linter.unusedVariables false
set_option linter.unusedSimpArgs false

theorem idxK_cases (p : LK → Bool) (ls : List LK) : idxK p ls = -1 ∨ 0 ≤ idxK p ls := by
  unfold idxK
  cases ls.findIdx? p with
  | none => exact .inl rfl
  | some i => right; show (0 : Int) ≤ (i : Int); omega
/-- What the document's Put says and leaves. -/
def rputS (next : Int) (ds : List DG) (ls : List LK) (x y : Int) (s : ByteArray) : PutS :=
  if 0 ≤ idxK (eqK ⟨min x y, max x y⟩) ls then ⟨0, 34, next, ds⟩
  else if 65536 ≤ ds.length ∨ next = 4611686018427387904 then ⟨0, 30, next, ds⟩
  else ⟨next + 1, 0, next + 1, ds ++ [⟨next + 1, x, y, s⟩]⟩
/-- What a call of Put leaves. -/
def RPutOut (w : World) (r : Nat) (a : Option Addr) (la : Option Addr) (m lc : Nat) (ls : List LK) (P : PutS) (e : Ending) (w' : World) : Prop :=
  e = .returned (.tuple #[.int .i64 P.r0, .int .i64 P.r1]) ∧ Only (refC r a) w w' ∧ ∃ a' cap', RAt w' r P.next a' P.ds.length cap' P.ds la m lc ls ∧ (∀ g off, a' = some ⟨g, off, none⟩ → (∃ o, a = some ⟨g, o, none⟩) ∨ w.heap.size ≤ g)
theorem rput_any (r : Nat) (next : Int) (a : Option Addr) (n cap : Nat) (ds : List DG) (la : Option Addr) (m lc : Nat) (ls : List LK) (x y : Int) (s : ByteArray) (w : World) (R : RAt w r next a n cap ds la m lc ls) (hs0 : 0 ≤ next) (hs : next ≤ 4611686018427387904) :
    Calls Try.prog 27 #[.pointer (some ⟨r, 0, none⟩), .int .i64 x, .int .i64 y, .string s] w fun e w' => RPutOut w r a la m lc ls (rputS next ds ls x y s) e w' := by
  have hn := R.lst.size
  subst hn
  unfold rputS
  rcases idxK_cases (eqK ⟨min x y, max x y⟩) ls with hc | hc
  · rw [if_neg (by omega)]
    by_cases hf : 65536 ≤ ds.length ∨ next = 4611686018427387904
    · rw [if_pos hf]
      refine (rput_full r next a _ cap ds la m lc ls x y s w R hc hf).mono ?_
      rintro e w' ⟨rfl, b⟩
      exact ⟨rfl, Only.of_below b, a, cap, R.below b, fun g off e => .inl ⟨off, e⟩⟩
    · rw [if_neg hf]
      refine (rput_ok r next a _ cap ds la m lc ls x y s w R hc (by omega) hs0 (by omega)).mono ?_
      rintro e w' ⟨rfl, o, a', cap', R', h⟩
      exact ⟨rfl, o, a', cap', by simpa using R', h⟩
  · rw [if_pos hc]
    refine (rput_lost r next a _ cap ds la m lc ls x y s w R hc).mono ?_
    rintro e w' ⟨rfl, b⟩
    exact ⟨rfl, Only.of_below b, a, cap, R.below b, fun g off e => .inl ⟨off, e⟩⟩
set_option maxHeartbeats 2000000 in
theorem rdouble_some (r : Nat) (next : Int) (a : Option Addr) (n cap : Nat) (ds : List DG) (la : Option Addr) (m lc : Nat) (ls : List LK) (z : Int) (w : World) (R : RAt w r next a n cap ds la m lc ls) (hs0 : 0 ≤ next) (hs : next ≤ 4611686018427387904) (i : Nat) (num src dst : Int) (body : ByteArray) (hd : ds[i]? = some ⟨num, src, dst, body⟩) (hc : idx (fun d => d.num == z) ds = (i : Int)) :
    Calls Try.prog 29 #[.pointer (some ⟨r, 0, none⟩), .int .i64 z] w fun e w' => RPutOut w r a la m lc ls (rputS next ds ls src dst body) e w' := by
  have K := place_any r next a n cap ds la m lc ls z w R
  rw [hc] at K
  have hin : i < n := by have := (List.getElem?_eq_some_iff.1 hd).1; have := R.lst.size; omega
  have hiI : (i : Int) < (n : Int) := by omega
  have hi0 : (0 : Int) ≤ (i : Int) := by omega
  have c1 := row_cell R.obj 1 (.slice a n cap) rfl
  obtain ⟨g, off, ha, hd', hr⟩ := R.lst.at i hin
  rw [hd] at hd'
  rw [← Option.some.inj hd'] at hr
  have b0 : Below w.heap.size w (w.alloc (.cells #[.int .i64 num, .int .i64 src, .int .i64 dst, .string body] 33)) := (Below.refl _ _).alloc (Nat.le_refl _) _
  have K2 := rput_any r next a n cap ds la m lc ls src dst body _ (R.below b0) hs0 hs
  generalize rputS next ds ls src dst body = P at K2 ⊢
  have HS : Hid (0 ≤ next ∧ next ≤ 4611686018427387904) := ⟨hs0, hs⟩
  clear hs0 hs hc hd hd'
  rw [ha] at c1 ⊢
  go_enter Try.func29, Try.ntmps29
  go_wp2_with (first
    | ((with_reducible show wpList _ _ _ (Oper.mk _ (Op.load 33 _) _ _ _ _ :: _) _ _); go_must (refine wpList_load33x rfl _ rfl g (off + i * 4) num src dst body rfl hr ?_))
    | (go_at_call 47; go_must (refine K.mono ?_; rintro e w1 ⟨rfl, hw⟩; rw [hw]; clear hw K))
    | (go_at_call 27; go_must (refine K2.mono ?_; rintro e w2 ⟨rfl, o2, h2⟩; clear K2)))
  go_ret2
  rw [ha] at o2 h2
  obtain ⟨a', cap', R', h'⟩ := h2
  exact ⟨rfl, (Only.of_below b0).trans o2, a', cap', R', fun g off e => (h' g off e).imp id fun h => by have := b0.size; omega⟩
end Go.Proofs.Ytoppecppmjpgiaa
