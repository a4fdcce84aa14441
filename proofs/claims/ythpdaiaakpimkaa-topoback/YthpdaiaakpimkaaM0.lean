/-
  Package topo: where a number stands in a list; lists of numbers in memory; the small functions.
-/
import Derived.Test.YthpdaiaakpimkaaU0
import Derived.WalkKit
import Derived.ProofKit
import Derived.Deep.LoopGhost
import Derived.Deep.Cut
namespace Go.Proofs.Ythpdaiaakpimkaa
open Go.ChangeShapes Go.WideShapes Go.ChangeAt Go.RowKit
set_option linter.unusedVariables false
set_option linter.unusedSimpArgs false

/-! ### Where a number stands -/
def ix (v : Int) : List Int → Nat
  | [] => 0
  | x :: l => if x = v then 0 else ix v l + 1
theorem ix_le (v : Int) (l : List Int) : ix v l ≤ l.length := by
  induction l with
  | nil => simp [ix]
  | cons x l ih => unfold ix; split <;> simp <;> omega
theorem ix_at {v : Int} {l : List Int} {k : Nat} (hk : k < l.length) (h1 : ∀ j, j < k → l.getD j 0 ≠ v) (h2 : l.getD k 0 = v) : ix v l = k := by
  induction l generalizing k with
  | nil => simp at hk
  | cons x l ih =>
    unfold ix
    cases k with
    | zero => rw [if_pos (by simpa using h2)]
    | succ k =>
      rw [if_neg (by simpa using h1 0 (by omega)), ih (by simpa using hk) (fun j hj => by simpa using h1 (j + 1) (by omega)) (by simpa using h2)]
theorem ix_none {v : Int} {l : List Int} (h : ∀ j, j < l.length → l.getD j 0 ≠ v) : ix v l = l.length := by
  induction l with
  | nil => rfl
  | cons x l ih =>
    unfold ix
    rw [if_neg (by simpa using h 0 (by simp)), ih (fun j hj => by simpa using h (j + 1) (by simpa using hj))]
    rfl
theorem ix_get {v : Int} {l : List Int} (h : ix v l < l.length) : l.getD (ix v l) 0 = v := by
  induction l with
  | nil => simp at h
  | cons x l ih =>
    by_cases hx : x = v
    · have e : ix v (x :: l) = 0 := by unfold ix; rw [if_pos hx]
      rw [e]; simpa using hx
    · have e : ix v (x :: l) = ix v l + 1 := by rw [ix, if_neg hx]
      rw [e] at h ⊢
      simpa using ih (by simpa using h)
theorem ix_ne {v : Int} {l : List Int} {j : Nat} (h : j < ix v l) : l.getD j 0 ≠ v := by
  induction l generalizing j with
  | nil => simp [ix] at h
  | cons x l ih =>
    by_cases hx : x = v
    · have e : ix v (x :: l) = 0 := by unfold ix; rw [if_pos hx]
      omega
    · have e : ix v (x :: l) = ix v l + 1 := by rw [ix, if_neg hx]
      rw [e] at h
      cases j with
      | zero => simpa using hx
      | succ j => simpa using ih (by omega)
/-- As the program tells it: -1, if it is not there. -/
def px (v : Int) (l : List Int) : Int := if ix v l < l.length then (ix v l : Int) else -1
def hs (v : Int) (l : List Int) : Bool := decide (ix v l < l.length)
theorem px_ge (v : Int) (l : List Int) : decide (px v l ≥ 0) = hs v l := by
  unfold px hs
  by_cases h : ix v l < l.length
  · rw [if_pos h]; simp [h]
  · rw [if_neg h]; simp [h]
def nd (n : Int) : Bool := decide (0 ≤ n) && decide (n < 16)
/-- Why a neighbour can't be wanted beside those that are. -/
def rf (id : Int) (l : List Int) (v : Int) : Int := if nd v = false then 40 else if v = id then 41 else if hs v l = true then 42 else if 6 ≤ l.length then 43 else 0
theorem getD_take {l : List Int} {i j : Nat} (h : j < i) : (l.take i).getD j 0 = l.getD j 0 := by
  rw [List.getD_eq_getElem?_getD, List.getD_eq_getElem?_getD, List.getElem?_take, if_pos h]
theorem ix_take {v : Int} {l : List Int} {i : Nat} (hi : i ≤ l.length) : ix v (l.take i) < (l.take i).length ↔ ix v l < i := by
  have hl : (l.take i).length = i := by simp; omega
  constructor
  · intro h
    have h1 := ix_get h
    rw [hl] at h
    rw [getD_take h] at h1
    have h2 : ix v l = ix v (l.take i) := ix_at (by omega) (fun j hj => by have := ix_ne hj; rwa [getD_take (by omega)] at this) h1
    omega
  · intro h
    have h1 := ix_get (v := v) (l := l) (by omega)
    have h2 : ix v (l.take i) = ix v l := ix_at (by omega) (fun j hj => by rw [getD_take (by omega)]; exact ix_ne hj) (by rw [getD_take h]; exact h1)
    omega

/-! ### Lists in memory -/
structure Row (w : World) (a : Option Addr) (len cap : Nat) (zs : List Int) : Prop where
  size : zs.length = len
  le : len ≤ cap
  max : cap ≤ maxLen
  nil : a = none → cap = 0
  mem : len = 0 ∨ ∃ b off, a = some ⟨b, off, none⟩ ∧ b < w.heap.size ∧ ∀ k, k < len → w.cell? ⟨b, off + k, none⟩ = some (.int .i64 (zs.getD k 0))
theorem Row.below {w w' : World} {a : Option Addr} {len cap : Nat} {zs : List Int} (R : Row w a len cap zs) (hb : Below w.heap.size w w') : Row w' a len cap zs where
  size := R.size
  le := R.le
  max := R.max
  nil := R.nil
  mem := R.mem.imp id fun ⟨b, off, e, h, c⟩ => ⟨b, off, e, Nat.lt_of_lt_of_le h hb.size, fun k hk => (hb.cell (p := ⟨b, off + k, none⟩) h).trans (c k hk)⟩
theorem Row.drew {w : World} {a : Option Addr} {len cap : Nat} {zs : List Int} (R : Row w a len cap zs) : Row w.drew a len cap zs := ⟨R.size, R.le, R.max, R.nil, R.mem⟩
theorem Row.small {w : World} {a : Option Addr} {len cap : Nat} {zs : List Int} (R : Row w a len cap zs) : len ≤ 9223372036854775807 := by
  have h1 := R.le
  have h2 := R.max
  unfold maxLen at h2
  omega
theorem Row.to {w : World} {a : Option Addr} {len cap : Nat} {zs : List Int} (R : Row w a len cap zs) {k : Nat} (hk : k ≤ len) : Row w a k cap (zs.take k) where
  size := by have := R.size; simp; omega
  le := by have := R.le; omega
  max := R.max
  nil := R.nil
  mem := by
    by_cases h0 : k = 0
    · exact .inl h0
    · obtain ⟨b, off, e, h, c⟩ := R.mem.resolve_left (by omega)
      exact .inr ⟨b, off, e, h, fun j hj => by rw [getD_take hj]; exact c j (by omega)⟩

/-! ### The small functions -/
theorem isNode_any (n : Int) (w : World) : Calls Try.prog 24 #[.int .i64 n] w fun e w' => e = .returned (.bool (nd n)) ∧ w' = w := by
  go_enter Try.func24, Try.ntmps24
  by_cases h0 : 0 ≤ n
  · by_cases h1 : n < 16
    · go_wp2
      go_ret
      simp [nd, h0, h1]
    · go_wp2
      go_ret
      simp [nd, h0, h1]
  · go_wp2
    go_ret
    simp [nd]; omega
theorem rnode_any (n : Int) (w : World) : Calls Try.prog 27 #[.int .i64 n] w fun e w' => e = .returned (.bool (nd n)) ∧ w' = w := by
  go_enter Try.func27, Try.ntmps27
  by_cases h0 : 0 ≤ n
  · by_cases h1 : n < 16
    · go_wp2
      go_ret
      simp [nd, h0, h1]
    · go_wp2
      go_ret
      simp [nd, h0, h1]
  · go_wp2
    go_ret
    simp [nd]; omega
theorem isPlace_any (a : Option Addr) (len cap : Nat) (t : Int) (w : World) : Calls Try.prog 25 #[.slice a len cap, .int .i64 t] w fun e w' => e = .returned (.bool (decide (0 ≤ t) && decide (t < (len : Int)))) ∧ w' = w := by
  go_enter Try.func25, Try.ntmps25
  by_cases h0 : 0 ≤ t
  · by_cases h1 : t < (len : Int)
    · go_wp2
      go_ret
      simp [h0, h1]
    · go_wp2
      go_ret
      simp [h0, h1]
  · go_wp2
    go_ret
    simp; omega
set_option maxRecDepth 100000 in
set_option maxHeartbeats 1000000 in
theorem place_any (a : Option Addr) (len cap : Nat) (zs : List Int) (v : Int) (w : World) (R : Row w a len cap zs) : Calls Try.prog 28 #[.slice a len cap, .int .i64 v] w fun e w' => e = .returned (.int .i64 (px v zs)) ∧ w' = w := by
  have HS : Hid (zs.length = len) := R.size
  have HM : Hid (len ≤ 9223372036854775807) := R.small
  go_enter Try.func28, Try.ntmps28
  go_wp2
  go_loopg [5] len (fun gk v5 wr => ∃ k : Nat, v5 = .int .i64 (k : Int) ∧ k + gk = len ∧ (∀ j, j < k → zs.getD j 0 ≠ v) ∧ wr = w)
  case atStart => exact ⟨0, by first | rfl | go_num, by omega, fun j hj => by omega, rfl⟩
  case round =>
    obtain ⟨k, rfl, hgk, hn, rfl⟩ := hrel
    have HN : Hid (∀ j, j < k → zs.getD j 0 ≠ v) := hn
    have HG : Hid (k + gk = len) := hgk
    by_cases hk : k < len
    · obtain ⟨b, off, rfl, hb, hc⟩ := R.mem.resolve_left (by omega)
      have c0 := hc k hk
      have hkI : (k : Int) < (len : Int) := by omega
      have HK : Hid (k < len) := hk
      obtain ⟨x, hx⟩ : ∃ x, x = zs.getD k 0 := ⟨_, rfl⟩
      have HX : Hid (x = zs.getD k 0) := hx
      rw [← hx] at c0
      clear hx hc hn hgk R hk
      by_cases hv : x = v
      · subst hv
        go_wp2
        go_ret
        refine ⟨?_, rfl⟩
        have e : ix x zs = k := ix_at (by rw [HS.out]; exact HK.out) HN.out HX.out.symm
        unfold px
        rw [e, if_pos (by rw [HS.out]; exact HK.out)]
        rfl
      · have hve : (x == v) = false := by simpa using hv
        have hwr : IntKind.i64.wrap ((k : Int) + 1) = (k : Int) + 1 := by rw [IntKind.wrap_i64]; have := HM.out; have := HK.out; omega
        have HV : Hid (x ≠ v) := hv
        clear hv
        go_wp2
        go_roundg (gk - 1)
        case measure => have := HG.out; have := HK.out; omega
        case rel =>
          refine ⟨k + 1, by first | rfl | go_num, by have := HG.out; have := HK.out; omega, fun j hj => ?_, rfl⟩
          by_cases hjk : j = k
          · rw [hjk, ← HX.out]; exact HV.out
          · exact HN.out j (by omega)
    · have hkI : ¬ (k : Int) < (len : Int) := by omega
      have HK : Hid (k = len) := by show k = len; omega
      clear hn hgk R hk
      go_wp2
      go_ret
      refine ⟨?_, rfl⟩
      have e : ix v zs = zs.length := ix_none (fun j hj => HN.out j (by rw [HK.out, ← HS.out]; exact hj))
      unfold px
      rw [e, if_neg (by omega)]
      rfl
set_option maxRecDepth 100000 in
set_option maxHeartbeats 1000000 in
theorem index_any (a : Option Addr) (len cap : Nat) (zs : List Int) (v : Int) (w : World) (R : Row w a len cap zs) : Calls Try.prog 32 #[.slice a len cap, .int .i64 v] w fun e w' => e = .returned (.int .i64 (px v zs)) ∧ w' = w := by
  have HS : Hid (zs.length = len) := R.size
  have HM : Hid (len ≤ 9223372036854775807) := R.small
  go_enter Try.func32, Try.ntmps32
  go_wp2
  go_loopg [8] len (fun gk v8 wr => ∃ k : Nat, v8 = .int .i64 (k : Int) ∧ k + gk = len ∧ (∀ j, j < k → zs.getD j 0 ≠ v) ∧ wr = w)
  case atStart => exact ⟨0, by first | rfl | go_num, by omega, fun j hj => by omega, rfl⟩
  case round =>
    obtain ⟨k, rfl, hgk, hn, rfl⟩ := hrel
    have HN : Hid (∀ j, j < k → zs.getD j 0 ≠ v) := hn
    have HG : Hid (k + gk = len) := hgk
    by_cases hk : k < len
    · obtain ⟨b, off, rfl, hb, hc⟩ := R.mem.resolve_left (by omega)
      have c0 := hc k hk
      have hkI : (k : Int) < (len : Int) := by omega
      have HK : Hid (k < len) := hk
      obtain ⟨x, hx⟩ : ∃ x, x = zs.getD k 0 := ⟨_, rfl⟩
      have HX : Hid (x = zs.getD k 0) := hx
      rw [← hx] at c0
      clear hx hc hn hgk R hk
      by_cases hv : x = v
      · subst hv
        go_wp2
        go_ret
        refine ⟨?_, rfl⟩
        have e : ix x zs = k := ix_at (by rw [HS.out]; exact HK.out) HN.out HX.out.symm
        unfold px
        rw [e, if_pos (by rw [HS.out]; exact HK.out)]
        rfl
      · have hve : (v == x) = false := by simpa using fun h : v = x => hv h.symm
        have hwr : IntKind.i64.wrap ((k : Int) + 1) = (k : Int) + 1 := by rw [IntKind.wrap_i64]; have := HM.out; have := HK.out; omega
        have HV : Hid (x ≠ v) := hv
        clear hv
        go_wp2
        go_roundg (gk - 1)
        case measure => have := HG.out; have := HK.out; omega
        case rel =>
          refine ⟨k + 1, by first | rfl | go_num, by have := HG.out; have := HK.out; omega, fun j hj => ?_, rfl⟩
          by_cases hjk : j = k
          · rw [hjk, ← HX.out]; exact HV.out
          · exact HN.out j (by omega)
    · have hkI : ¬ (k : Int) < (len : Int) := by omega
      have HK : Hid (k = len) := by show k = len; omega
      clear hn hgk R hk
      go_wp2
      go_ret
      refine ⟨?_, rfl⟩
      have e : ix v zs = zs.length := ix_none (fun j hj => HN.out j (by rw [HK.out, ← HS.out]; exact hj))
      unfold px
      rw [e, if_neg (by omega)]
      rfl
theorem contains_any (a : Option Addr) (len cap : Nat) (zs : List Int) (v : Int) (w : World) (R : Row w a len cap zs) : Calls Try.prog 31 #[.slice a len cap, .int .i64 v] w fun e w' => e = .returned (.bool (hs v zs)) ∧ w' = w := by
  go_enter Try.func31, Try.ntmps31
  go_wp2_with (go_at_call 32; refine (index_any a len cap zs v _ R).mono ?_; rintro e w1 ⟨rfl, hw⟩; rw [hw]; clear hw w1)
  go_ret
  exact ⟨by rw [← px_ge]; simp, rfl⟩
theorem has_any (a : Option Addr) (len cap : Nat) (zs : List Int) (v : Int) (w : World) (R : Row w a len cap zs) : Calls Try.prog 14 #[.slice a len cap, .int .i64 v] w fun e w' => e = .returned (.bool (hs v zs)) ∧ w' = w := by
  go_enter Try.func14, Try.ntmps14
  go_wp2_with (go_at_call 31; refine (contains_any a len cap zs v _ R).mono ?_; rintro e w1 ⟨rfl, hw⟩; rw [hw]; clear hw w1)
  go_ret
  exact ⟨rfl, rfl⟩
theorem rhas_any (a : Option Addr) (len cap : Nat) (zs : List Int) (v : Int) (w : World) (R : Row w a len cap zs) : Calls Try.prog 15 #[.slice a len cap, .int .i64 v] w fun e w' => e = .returned (.bool (hs v zs)) ∧ w' = w := by
  go_enter Try.func15, Try.ntmps15
  go_wp2_with (go_at_call 28; refine (place_any a len cap zs v _ R).mono ?_; rintro e w1 ⟨rfl, hw⟩; rw [hw]; clear hw w1)
  go_ret
  exact ⟨by rw [← px_ge]; simp, rfl⟩
end Go.Proofs.Ythpdaiaakpimkaa
