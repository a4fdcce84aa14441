/-
  Package bag: the document's Forget; its Put where it refuses; its Take and Double where there is none.
-/
import Derived.Test.YtoppecppmjpgiaaBhF
namespace Go.Proofs.Ytoppecppmjpgiaa
open Go.ChangeShapes Go.WideShapes Go.ChangeAt Go.RowKit Go.Maps
set_option linter.unusedVariables false
set_option linter.unusedSimpArgs false

theorem lost_to (x y : Int) (d : DG) : lostP true false x y d = onTo y d := by simp [lostP, onTo]
set_option maxHeartbeats 1000000 in
theorem rforget_any (r : Nat) (next : Int) (a : Option Addr) (n cap : Nat) (ds : List DG) (la : Option Addr) (m lc : Nat) (ls : List LK) (y : Int) (w : World) (R : RAt w r next a n cap ds la m lc ls) (hn : n ≤ 65536) :
    Calls Try.prog 33 #[.pointer (some ⟨r, 0, none⟩), .int .i64 y] w fun e w' => RLost w r next n (ds.filter (fun d => !onTo y d)) la m lc ls e w' := by
  have K := rlose_to r next a n cap ds la m lc ls 0 y w R hn
  simp only [lost_to] at K
  generalize ds.filter (fun d => !onTo y d) = es at K ⊢
  go_enter Try.func33, Try.ntmps33
  go_wp2_with (go_at_call 49; go_must (refine K.mono ?_; rintro e w1 ⟨rfl, h⟩))
  go_ret
  exact ⟨rfl, h⟩
theorem RAt.below {W W' : World} {r : Nat} {next : Int} {a : Option Addr} {n c : Nat} {ds : List DG} {la : Option Addr} {m lc : Nat} {ls : List LK} (R : RAt W r next a n c ds la m lc ls) (b : Below W.heap.size W W') : RAt W' r next a n c ds la m lc ls :=
  ⟨(b.block r (row_lt R.obj)).trans R.obj, R.lst.below b, R.lks.below b, fun g off e => (R.typ g off e).imp fun cur h => (b.block g (row_lt h)).trans h⟩
set_option maxHeartbeats 2000000 in
theorem rput_lost (r : Nat) (next : Int) (a : Option Addr) (n cap : Nat) (ds : List DG) (la : Option Addr) (m lc : Nat) (ls : List LK) (x y : Int) (s : ByteArray) (w : World) (R : RAt w r next a n cap ds la m lc ls) (hc : 0 ≤ idxK (eqK ⟨min x y, max x y⟩) ls) :
    Calls Try.prog 27 #[.pointer (some ⟨r, 0, none⟩), .int .i64 x, .int .i64 y, .string s] w fun e w' => e = .returned (.tuple #[.int .i64 0, .int .i64 34]) ∧ Below w.heap.size w w' := by
  have K := severed_any r next a n cap ds la m lc ls x y w R
  generalize idxK (eqK ⟨min x y, max x y⟩) ls = q at K hc
  go_enter Try.func27, Try.ntmps27
  go_wp2_with (go_at_call 46; go_must (refine K.mono ?_; rintro e w1 ⟨rfl, b1⟩))
  go_ret2
  exact ⟨rfl, b1⟩
set_option maxHeartbeats 2000000 in
theorem rput_full (r : Nat) (next : Int) (a : Option Addr) (n cap : Nat) (ds : List DG) (la : Option Addr) (m lc : Nat) (ls : List LK) (x y : Int) (s : ByteArray) (w : World) (R : RAt w r next a n cap ds la m lc ls) (hc : idxK (eqK ⟨min x y, max x y⟩) ls = -1) (hn : 65536 ≤ n ∨ next = 4611686018427387904) :
    Calls Try.prog 27 #[.pointer (some ⟨r, 0, none⟩), .int .i64 x, .int .i64 y, .string s] w fun e w' => e = .returned (.tuple #[.int .i64 0, .int .i64 30]) ∧ Below w.heap.size w w' := by
  have K := severed_any r next a n cap ds la m lc ls x y w R
  rw [hc] at K
  by_cases h1 : 65536 ≤ n
  · have hI : (65536 : Int) ≤ (n : Int) := by omega
    go_enter Try.func27, Try.ntmps27
    go_wp2_with (go_at_call 46; go_must (refine K.mono ?_; rintro e w1 ⟨rfl, b1⟩; have R1 := R.below b1; have c1 := row_cell R1.obj 1 (.slice a n cap) rfl))
    go_ret2
    exact ⟨rfl, b1⟩
  · have hI : ¬ (65536 : Int) ≤ (n : Int) := by omega
    obtain rfl : next = 4611686018427387904 := hn.resolve_left h1
    go_enter Try.func27, Try.ntmps27
    go_wp2_with (go_at_call 46; go_must (refine K.mono ?_; rintro e w1 ⟨rfl, b1⟩; have R1 := R.below b1; have c1 := row_cell R1.obj 1 (.slice a n cap) rfl; have c0 := row_cell R1.obj 0 (.int .i64 4611686018427387904) rfl))
    go_ret2
    exact ⟨rfl, b1⟩
set_option maxHeartbeats 2000000 in
theorem rdouble_none (r : Nat) (next : Int) (a : Option Addr) (n cap : Nat) (ds : List DG) (la : Option Addr) (m lc : Nat) (ls : List LK) (x : Int) (w : World) (R : RAt w r next a n cap ds la m lc ls) (hc : idx (fun d => d.num == x) ds = -1) :
    Calls Try.prog 29 #[.pointer (some ⟨r, 0, none⟩), .int .i64 x] w fun e w' => e = .returned (.tuple #[.int .i64 0, .int .i64 31]) ∧ w' = w := by
  have K := place_any r next a n cap ds la m lc ls x w R
  rw [hc] at K
  go_enter Try.func29, Try.ntmps29
  go_wp2_with (go_at_call 47; go_must (refine K.mono ?_; rintro e w1 ⟨rfl, hw⟩; rw [hw]; clear hw))
  go_ret2
  exact ⟨rfl, rfl⟩
end Go.Proofs.Ytoppecppmjpgiaa
