/-
  Package book: Taken, Estimate, Rest, Back.
-/
import Derived.Test.YtcacocndcfbmaaaB5a
import Derived.Test.YtcacocndcfbmaaaB5b
import Derived.Test.YtcacocndcfbmaaaB5c
import Derived.Test.YtcacocndcfbmaaaB5d
namespace Go.Proofs.Ytcacocndcfbmaaa
open Go.ChangeShapes Go.WideShapes Go.ChangeAt Go.RowKit
set_option linter.unusedVariables false
set_option linter.unusedSimpArgs false

set_option maxRecDepth 100000 in
set_option maxHeartbeats 4000000 in
theorem taken_any (id : Int) (A : Option Addr) (c : Nat) (hs : List HS) (name : ByteArray) (w : World) (P : Hs w A hs.length c hs) (hn : hs.length ≤ 500) :
    Calls Try.prog 11 #[.int .i64 id, .slice A hs.length c, .string name] w fun e w' => e = .returned (.tuple #[.int .i64 (chkV (0 :: (ents id name hs).map cntT).sum), .int .i64 (chkE (0 :: (ents id name hs).map cntT).sum)]) ∧ Below w.heap.size w w' := by
  have B0 : Below w.heap.size w w := Below.refl _ _
  have K25 := entries_any id A hs.length c name w
  have K26 : ∀ w1, w1 = (((w.alloc (.cells #[.int .i64 id] 3)).alloc (.cells #[.slice A hs.length c] 22)).alloc (.cells #[.string name] 9)) → Calls Try.prog 26 #[.int .i64 0, .func (.func 38) #[] #[.pointer (some ⟨w.heap.size + 1, 0, none⟩), .pointer (some ⟨w.heap.size + 1 + 1, 0, none⟩), .pointer (some ⟨w.heap.size, 0, none⟩)], .func (.func 27) #[] #[]] w1 fun e w' => e = .returned (.tuple #[.int .i64 (chkV (0 :: (ents id name hs).map cntT).sum), .int .i64 (chkE (0 :: (ents id name hs).map cntT).sum)]) ∧ Below w1.heap.size w1 w' ∧ Below w.heap.size w w1 := by
    intro w1 hw1
    obtain ⟨K1, Z1⟩ := keepE_start hw1
    exact (sumT_any w w.heap.size id A c hs name 0 w1 (P.below B0) K1 (by omega) (by omega) hn ⟨by decide, by decide⟩).mono fun e w' h => ⟨h.1, h.2, K1.below⟩
  obtain ⟨V, hV⟩ : ∃ V, chkV (0 :: (ents id name hs).map cntT).sum = V := ⟨_, rfl⟩
  obtain ⟨E, hE⟩ : ∃ E, chkE (0 :: (ents id name hs).map cntT).sum = E := ⟨_, rfl⟩
  rw [hV, hE]
  simp only [hV, hE] at K26
  skip
  clear hV hE
  go_enter Try.func11, Try.ntmps11
  go_wp2_with (first
    | (go_at_call 25; refine K25.mono ?_; rintro e w1 ⟨rfl, hw1⟩; have K26' := K26 w1 hw1; clear K25 K26 hw1)
    | (go_at_call 26; refine K26'.mono ?_; rintro e w2 ⟨rfl, b2, b1⟩))
  go_ret2
  have z1 := b1.size
  exact ⟨rfl, B0.trans ((b1.trans (b2.mono (by simpa using z1))).mono B0.size)⟩
set_option maxRecDepth 100000 in
set_option maxHeartbeats 4000000 in
theorem estimate_any (id : Int) (input : Int) (A : Option Addr) (c : Nat) (hs : List HS) (name : ByteArray) (w : World) (P : Hs w A hs.length c hs) (hn : hs.length ≤ 500) (hin : -2147483647 ≤ input ∧ input ≤ 2147483647) :
    Calls Try.prog 13 #[.int .i64 id, .int .i64 input, .slice A hs.length c, .string name] w fun e w' => e = .returned (.tuple #[.int .i64 (chkV (input :: (ents id name hs).map cntE).sum), .int .i64 (chkE (input :: (ents id name hs).map cntE).sum)]) ∧ Below w.heap.size w w' := by
  have B0 : Below w.heap.size w w := Below.refl _ _
  have K25 := entries_any id A hs.length c name w
  have K26 : ∀ w1, w1 = (((w.alloc (.cells #[.int .i64 id] 3)).alloc (.cells #[.slice A hs.length c] 22)).alloc (.cells #[.string name] 9)) → Calls Try.prog 26 #[.int .i64 input, .func (.func 38) #[] #[.pointer (some ⟨w.heap.size + 1, 0, none⟩), .pointer (some ⟨w.heap.size + 1 + 1, 0, none⟩), .pointer (some ⟨w.heap.size, 0, none⟩)], .func (.func 30) #[] #[]] w1 fun e w' => e = .returned (.tuple #[.int .i64 (chkV (input :: (ents id name hs).map cntE).sum), .int .i64 (chkE (input :: (ents id name hs).map cntE).sum)]) ∧ Below w1.heap.size w1 w' ∧ Below w.heap.size w w1 := by
    intro w1 hw1
    obtain ⟨K1, Z1⟩ := keepE_start hw1
    exact (sumE_any w w.heap.size id A c hs name input w1 (P.below B0) K1 (by omega) (by omega) hn hin).mono fun e w' h => ⟨h.1, h.2, K1.below⟩
  obtain ⟨V, hV⟩ : ∃ V, chkV (input :: (ents id name hs).map cntE).sum = V := ⟨_, rfl⟩
  obtain ⟨E, hE⟩ : ∃ E, chkE (input :: (ents id name hs).map cntE).sum = E := ⟨_, rfl⟩
  rw [hV, hE]
  simp only [hV, hE] at K26
  skip
  clear hV hE
  go_enter Try.func13, Try.ntmps13
  go_wp2_with (first
    | (go_at_call 25; refine K25.mono ?_; rintro e w1 ⟨rfl, hw1⟩; have K26' := K26 w1 hw1; clear K25 K26 hw1)
    | (go_at_call 26; refine K26'.mono ?_; rintro e w2 ⟨rfl, b2, b1⟩))
  go_ret2
  have z1 := b1.size
  exact ⟨rfl, B0.trans ((b1.trans (b2.mono (by simpa using z1))).mono B0.size)⟩
set_option maxRecDepth 100000 in
set_option maxHeartbeats 4000000 in
theorem rest_any (id : Int) (input peer : Int) (A : Option Addr) (c : Nat) (hs : List HS) (name : ByteArray) (w : World) (P : Hs w A hs.length c hs) (hn : hs.length ≤ 500) (hin : -2147483647 ≤ input ∧ input ≤ 2147483647) :
    Calls Try.prog 15 #[.int .i64 id, .int .i64 input, .slice A hs.length c, .string name, .int .i64 peer] w fun e w' => e = .returned (.tuple #[.int .i64 (chkV (input :: (ents id name hs).map (cntR peer)).sum), .int .i64 (chkE (input :: (ents id name hs).map (cntR peer)).sum)]) ∧ Below w.heap.size w w' := by
  have B0 : Below w.heap.size w (w.alloc (.cells #[.int .i64 peer] 3)) := (Below.refl _ _).alloc (Nat.le_refl _) _
  have Z0 : (w.alloc (.cells #[.int .i64 peer] 3)).heap.size = w.heap.size + 1 := by simp
  have O0 : One (w.alloc (.cells #[.int .i64 peer] 3)) w.heap.size (.int .i64 peer) := One.new _ _ _
  have K25 := entries_any id A hs.length c name (w.alloc (.cells #[.int .i64 peer] 3))
  have K26 : ∀ w1, w1 = ((((w.alloc (.cells #[.int .i64 peer] 3)).alloc (.cells #[.int .i64 id] 3)).alloc (.cells #[.slice A hs.length c] 22)).alloc (.cells #[.string name] 9)) → Calls Try.prog 26 #[.int .i64 input, .func (.func 38) #[] #[.pointer (some ⟨(w.alloc (.cells #[.int .i64 peer] 3)).heap.size + 1, 0, none⟩), .pointer (some ⟨(w.alloc (.cells #[.int .i64 peer] 3)).heap.size + 1 + 1, 0, none⟩), .pointer (some ⟨(w.alloc (.cells #[.int .i64 peer] 3)).heap.size, 0, none⟩)], .func (.func 31) #[] #[.pointer (some ⟨w.heap.size, 0, none⟩)]] w1 fun e w' => e = .returned (.tuple #[.int .i64 (chkV (input :: (ents id name hs).map (cntR peer)).sum), .int .i64 (chkE (input :: (ents id name hs).map (cntR peer)).sum)]) ∧ Below w1.heap.size w1 w' ∧ Below (w.alloc (.cells #[.int .i64 peer] 3)).heap.size (w.alloc (.cells #[.int .i64 peer] 3)) w1 := by
    intro w1 hw1
    obtain ⟨K1, Z1⟩ := keepE_start hw1
    exact (sumR_any (w.alloc (.cells #[.int .i64 peer] 3)) (w.alloc (.cells #[.int .i64 peer] 3)).heap.size id A c hs name input peer w.heap.size w1 (P.below B0) K1 (by omega) (by omega) hn hin (O0.below K1.below)).mono fun e w' h => ⟨h.1, h.2, K1.below⟩
  obtain ⟨V, hV⟩ : ∃ V, chkV (input :: (ents id name hs).map (cntR peer)).sum = V := ⟨_, rfl⟩
  obtain ⟨E, hE⟩ : ∃ E, chkE (input :: (ents id name hs).map (cntR peer)).sum = E := ⟨_, rfl⟩
  rw [hV, hE]
  simp only [hV, hE] at K26
  rw [Z0] at K25 K26
  clear hV hE Z0 O0
  go_enter Try.func15, Try.ntmps15
  go_wp2_with (first
    | (go_at_call 25; refine K25.mono ?_; rintro e w1 ⟨rfl, hw1⟩; have K26' := K26 w1 hw1; clear K25 K26 hw1)
    | (go_at_call 26; refine K26'.mono ?_; rintro e w2 ⟨rfl, b2, b1⟩))
  go_ret2
  have z1 : w.heap.size + 1 ≤ w1.heap.size := by have := b1.size; simpa using this
  exact ⟨rfl, B0.trans ((b1.trans (b2.mono z1)).mono (by omega))⟩
set_option maxRecDepth 100000 in
set_option maxHeartbeats 4000000 in
theorem back_any (id : Int) (peer : Int) (A : Option Addr) (c : Nat) (hs : List HS) (name : ByteArray) (w : World) (P : Hs w A hs.length c hs) (hn : hs.length ≤ 500) :
    Calls Try.prog 17 #[.int .i64 id, .slice A hs.length c, .string name, .int .i64 peer] w fun e w' => e = .returned (.tuple #[.int .i64 (chkV (0 :: (ents id name hs).map (cntB peer)).sum), .int .i64 (chkE (0 :: (ents id name hs).map (cntB peer)).sum)]) ∧ Below w.heap.size w w' := by
  have B0 : Below w.heap.size w (w.alloc (.cells #[.int .i64 peer] 3)) := (Below.refl _ _).alloc (Nat.le_refl _) _
  have Z0 : (w.alloc (.cells #[.int .i64 peer] 3)).heap.size = w.heap.size + 1 := by simp
  have O0 : One (w.alloc (.cells #[.int .i64 peer] 3)) w.heap.size (.int .i64 peer) := One.new _ _ _
  have K25 := entries_any id A hs.length c name (w.alloc (.cells #[.int .i64 peer] 3))
  have K26 : ∀ w1, w1 = ((((w.alloc (.cells #[.int .i64 peer] 3)).alloc (.cells #[.int .i64 id] 3)).alloc (.cells #[.slice A hs.length c] 22)).alloc (.cells #[.string name] 9)) → Calls Try.prog 26 #[.int .i64 0, .func (.func 38) #[] #[.pointer (some ⟨(w.alloc (.cells #[.int .i64 peer] 3)).heap.size + 1, 0, none⟩), .pointer (some ⟨(w.alloc (.cells #[.int .i64 peer] 3)).heap.size + 1 + 1, 0, none⟩), .pointer (some ⟨(w.alloc (.cells #[.int .i64 peer] 3)).heap.size, 0, none⟩)], .func (.func 32) #[] #[.pointer (some ⟨w.heap.size, 0, none⟩)]] w1 fun e w' => e = .returned (.tuple #[.int .i64 (chkV (0 :: (ents id name hs).map (cntB peer)).sum), .int .i64 (chkE (0 :: (ents id name hs).map (cntB peer)).sum)]) ∧ Below w1.heap.size w1 w' ∧ Below (w.alloc (.cells #[.int .i64 peer] 3)).heap.size (w.alloc (.cells #[.int .i64 peer] 3)) w1 := by
    intro w1 hw1
    obtain ⟨K1, Z1⟩ := keepE_start hw1
    exact (sumB_any (w.alloc (.cells #[.int .i64 peer] 3)) (w.alloc (.cells #[.int .i64 peer] 3)).heap.size id A c hs name 0 peer w.heap.size w1 (P.below B0) K1 (by omega) (by omega) hn ⟨by decide, by decide⟩ (O0.below K1.below)).mono fun e w' h => ⟨h.1, h.2, K1.below⟩
  obtain ⟨V, hV⟩ : ∃ V, chkV (0 :: (ents id name hs).map (cntB peer)).sum = V := ⟨_, rfl⟩
  obtain ⟨E, hE⟩ : ∃ E, chkE (0 :: (ents id name hs).map (cntB peer)).sum = E := ⟨_, rfl⟩
  rw [hV, hE]
  simp only [hV, hE] at K26
  rw [Z0] at K25 K26
  clear hV hE Z0 O0
  go_enter Try.func17, Try.ntmps17
  go_wp2_with (first
    | (go_at_call 25; refine K25.mono ?_; rintro e w1 ⟨rfl, hw1⟩; have K26' := K26 w1 hw1; clear K25 K26 hw1)
    | (go_at_call 26; refine K26'.mono ?_; rintro e w2 ⟨rfl, b2, b1⟩))
  go_ret2
  have z1 : w.heap.size + 1 ≤ w1.heap.size := by have := b1.size; simpa using this
  exact ⟨rfl, B0.trans ((b1.trans (b2.mono z1)).mono (by omega))⟩
end Go.Proofs.Ytcacocndcfbmaaa
