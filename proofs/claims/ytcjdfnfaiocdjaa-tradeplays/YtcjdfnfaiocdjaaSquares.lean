/-
  What num.Squares returns for every list of int64: the two words of the sum of the squares, modulo 2^128.
-/
import Derived.Test.YtcjdfnfaiocdjaaWides
import Derived.Deep.RegionWith
import Derived.Deep.Cut
import Derived.Deep.CutRange
namespace Go.Proofs.Ytcjdfnfaiocdjaa
open Go.ChangeShapes Go.WideShapes Go.ChangeAt Go.RowKit
set_option linter.unusedVariables false

/-! ### Plain arithmetic -/
def sqs : List Int → Int
  | [] => 0
  | x :: l => x * x + sqs l
theorem sqs_snoc (l : List Int) (x : Int) : sqs (l ++ [x]) = sqs l + x * x := by
  induction l with
  | nil => simp [sqs]
  | cons y l ih => simp [sqs, ih, Int.add_assoc]
theorem take_snoc (zs : List Int) (k : Nat) (h : k < zs.length) : zs.take (k + 1) = zs.take k ++ [zs.getD k 0] := by
  rw [List.take_succ_eq_append_getElem h]; simp [List.getD, h]
theorem hiW_bd (p : Int) : 0 ≤ hiW p ∧ hiW p ≤ 18446744073709551615 := lo64_bd _
theorem hiW_add (S q : Int) : hiW (val (hiW S) (lo64 S) + val (hiW q) (lo64 q)) = hiW (S + q) := by unfold hiW val lo64 hi64; omega
theorem lo64_add (S q : Int) : lo64 (val (hiW S) (lo64 S) + val (hiW q) (lo64 q)) = lo64 (S + q) := by unfold hiW val lo64 hi64; omega

/-- The list of int64 that a slice value leads to in a world. -/
structure Row (w : World) (a : Option Addr) (len : Nat) (zs : List Int) : Prop where
  size : zs.length = len
  max : len ≤ maxLen
  bd : ∀ k : Nat, -9223372036854775808 ≤ zs.getD k 0 ∧ zs.getD k 0 ≤ 9223372036854775807
  mem : len = 0 ∨ ∃ b off, a = some ⟨b, off, none⟩ ∧ b < w.heap.size ∧ ∀ k, k < len → w.cell? ⟨b, off + k, none⟩ = some (.int .i64 (zs.getD k 0))

theorem Two.set {W : World} {k : Nat} {v0 v1 : Value} (h : Two W k v0 v1) (a b : Value) : Two ((W.setCell ⟨k, 0, none⟩ a).setCell ⟨k, 1, none⟩ b) k a b := by
  obtain ⟨h0, h1, f0, f1, z⟩ := h
  refine ⟨?_, ?_, by simpa using f0, by simpa using f1, by simpa using z⟩
  · rw [World.cell?_setCell_other _ _ _ _ (by simp)]; exact World.cell?_setCell_same _ _ _ h0
  · exact World.cell?_setCell_same _ _ _ ((World.cell?_setCell_other _ _ _ _ (by simp)).trans h1)
theorem Two.vals {W : World} {k : Nat} {a b a' b' : Value} (h : Two W k a b) (e : a = a') (e' : b = b') : Two W k a' b' := by rw [← e, ← e']; exact h
theorem Two.far {W : World} {k : Nat} {v0 v1 : Value} (h : Two W k v0 v1) (a : Value) (j o : Nat) (n : j ≠ k) : Two (W.setCell ⟨j, o, none⟩ a) k v0 v1 := by
  obtain ⟨h0, h1, f0, f1, z⟩ := h
  refine ⟨?_, ?_, by simpa using f0, by simpa using f1, by simpa using z⟩
  · rw [World.cell?_setCell_other _ _ _ _ (fun e => n (congrArg Addr.block e))]; exact h0
  · rw [World.cell?_setCell_other _ _ _ _ (fun e => n (congrArg Addr.block e))]; exact h1

set_option maxHeartbeats 1000000 in
theorem squares_any (a : Option Addr) (len cap : Nat) (zs : List Int) (w : World) (R : Row w a len zs) :
    Calls Try.prog 43 #[.slice a len cap] w fun e w' => e = .returned (wide (hiW (sqs zs)) (lo64 (sqs zs))) ∧ Below w.heap.size w w' := by
  have hm := R.max
  unfold maxLen at hm
  go_enter Try.func43, Try.ntmps43
  go_wp2
  go_loopw [7] (fun i wr => ∃ k : Nat, k ≤ len ∧ i = .int .i64 k ∧ Two wr (w.heap.size + 1) (.int .u64 (hiW (sqs (zs.take k)))) (.int .u64 (lo64 (sqs (zs.take k)))) ∧ Two wr w.heap.size (.int .u64 0) (.int .u64 0) ∧ Below w.heap.size w wr)
    (fun i _ => len - (intOf i).toNat)
  case atStart => exact ⟨0, Nat.zero_le _, rfl, (Two.new _ _ _ _).at (by simp), (Two.new _ _ _ _).alloc _, by go_grown⟩
  case round =>
    obtain ⟨k, hk, rfl, T1, T0, hB⟩ := hrel
    by_cases hlt : k < len
    · obtain ⟨b, off, rfl, hb, hc⟩ := R.mem.resolve_left (by omega)
      have bd := R.bd k
      have c0 := (hB.cell (p := ⟨b, off + k, none⟩) hb).trans (hc k hlt)
      obtain ⟨x, hx⟩ : ∃ x, x = zs.getD k 0 := ⟨_, rfl⟩
      obtain ⟨S, hS⟩ : ∃ S, S = sqs (zs.take k) := ⟨_, rfl⟩
      rw [← hx] at c0 bd
      rw [← hS] at T1
      have HX : Hid (x = zs.getD k 0) := hx
      have HS : Hid (S = sqs (zs.take k)) := hS
      have HC : Hid _ := hc
      clear hx hS hc
      obtain ⟨b1, b2⟩ := bd
      obtain ⟨q0, q1, g0, g1, z⟩ := T1
      have T1 : Two wr (w.heap.size + 1) (.int .u64 (hiW S)) (.int .u64 (lo64 S)) := ⟨q0, q1, g0, g1, z⟩
      have hI : (k : Int) < (len : Int) := by omega
      have n1 := hiW_bd S
      have n2 := lo64_bd S
      have n3 := hiW_bd (x * x)
      have n4 := lo64_bd (x * x)
      obtain ⟨n11, n12⟩ := n1
      obtain ⟨n21, n22⟩ := n2
      obtain ⟨n31, n32⟩ := n3
      obtain ⟨n41, n42⟩ := n4
      go_wp2
      go_region_with (first
        | (go_at_call 50; refine (square_any _ _ (by assumption) (by assumption)).mono ?_; rintro e w1 ⟨rfl, hb1⟩; have U1 : Two w1 (w.heap.size + 1) (.int .u64 (hiW S)) (.int .u64 (lo64 S)) := Two.below (W := wr.drew) T1 hb1; obtain ⟨p0, p1, r0, r1, y⟩ := U1)
        | (go_at_call 49; refine (addWide_any _ _ _ _ _ (by assumption) (by assumption) (by assumption) (by assumption) (by assumption) (by assumption) (by assumption) (by assumption)).mono ?_; rintro e w2 ⟨rfl, hb2⟩; have U2 : Two w2 (w.heap.size + 1) (.int .u64 (hiW S)) (.int .u64 (lo64 S)) := Two.below ⟨p0, p1, r0, r1, y⟩ hb2; obtain ⟨s0, s1, t0, t1, y2⟩ := U2))
      all_goals go_wp2
      all_goals
        go_roundw
        case rel =>
          have hsn : sqs (zs.take (k + 1)) = S + x * x := by rw [take_snoc zs k (by have := R.size; omega), sqs_snoc, HS.out, HX.out]
          refine ⟨k + 1, by omega, by go_num, ?_, ?_, ?_⟩
          · rw [hsn]
            exact (Two.set ⟨s0, s1, t0, t1, y2⟩ _ _).vals (by rw [hiW_add]) (by rw [lo64_add])
          · exact Two.far (Two.far (Two.below (Two.below (W := wr.drew) T0 hb1) hb2) _ _ _ (by omega)) _ _ _ (by omega)
          · have hs1 := hb1.size
            have hB2 : Below w.heap.size w w2 := (Below.drew hB).trans ((hb1.mono (by have := hB.size; simpa using this)).trans (hb2.mono (by omega)))
            exact (hB2.setCell (by simp) _).setCell (by simp) _
        case measure => simp [intOf]; omega
    · obtain ⟨q0, q1, g0, g1, z⟩ := T1
      obtain ⟨s0, s1, t0, t1, y⟩ := T0
      have e : zs.take k = zs := List.take_of_length_le (by have := R.size; omega)
      rw [e] at q0 q1
      clear e
      go_wp2
      exact bodyPost_ret (v := wide (hiW (sqs zs)) (lo64 (sqs zs))) (by simp [results, Try.results43, go_sem, s0, s1]) rfl ⟨rfl, by go_grown⟩
end Go.Proofs.Ytcjdfnfaiocdjaa
