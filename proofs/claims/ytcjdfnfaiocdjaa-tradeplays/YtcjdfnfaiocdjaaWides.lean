/-
  What the calls of package num on wide numbers (128 bits, two words) return: sum, order, difference, squares.
-/
import Derived.Test.YtcjdfnfaiocdjaaWords
namespace Go.Proofs.Ytcjdfnfaiocdjaa
open Go.ChangeShapes Go.WideShapes Go.ChangeAt Go.RowKit
set_option linter.unusedVariables false

def val (h l : Int) : Int := h * 18446744073709551616 + l
def hiW (s : Int) : Int := lo64 (hi64 s)
def ovW (s : Int) : Bool := decide (340282366920938463463374607431768211456 ≤ s)
/-- The two words of a wide number, as a value. -/
abbrev wide (h l : Int) : Value := .agg #[.int .u64 h, .int .u64 l]

theorem bcell {W w1 : World} (hb : Below W.heap.size W w1) : (∀ b o, b < W.heap.size → w1.cell? ⟨b, o, none⟩ = W.cell? ⟨b, o, none⟩) ∧ (∀ b o, b < W.heap.size → w1.frozen? ⟨b, o, none⟩ = W.frozen? ⟨b, o, none⟩) :=
  ⟨fun b o h => hb.cell (p := ⟨b, o, none⟩) h, fun b o h => hb.frozen (p := ⟨b, o, none⟩) h⟩

/-- Block k holds two cells, v0 and v1, that may be written. -/
def Two (W : World) (k : Nat) (v0 v1 : Value) : Prop :=
  W.cell? ⟨k, 0, none⟩ = some v0 ∧ W.cell? ⟨k, 1, none⟩ = some v1 ∧ W.frozen? ⟨k, 0, none⟩ = false ∧ W.frozen? ⟨k, 1, none⟩ = false ∧ k < W.heap.size
theorem Two.new (W : World) (v0 v1 : Value) (t : TypeId) : Two (W.alloc (.cells #[v0, v1] t)) W.heap.size v0 v1 :=
  ⟨by simp, by simp, by simp, by simp, by simp⟩
theorem Two.alloc {W : World} {k : Nat} {v0 v1 : Value} (h : Two W k v0 v1) (o : Obj) : Two (W.alloc o) k v0 v1 :=
  ⟨(World.cell?_alloc_past _ _ _ h.2.2.2.2).trans h.1, (World.cell?_alloc_past _ _ _ h.2.2.2.2).trans h.2.1, (World.frozen?_alloc_past _ _ _ h.2.2.2.2).trans h.2.2.1, (World.frozen?_alloc_past _ _ _ h.2.2.2.2).trans h.2.2.2.1, by have := h.2.2.2.2; simp; omega⟩
theorem Two.below {W w1 : World} {k : Nat} {v0 v1 : Value} (h : Two W k v0 v1) (hb : Below W.heap.size W w1) : Two w1 k v0 v1 :=
  have hk := h.2.2.2.2
  ⟨(hb.cell (p := ⟨k, 0, none⟩) hk).trans h.1, (hb.cell (p := ⟨k, 1, none⟩) hk).trans h.2.1, (hb.frozen (p := ⟨k, 0, none⟩) hk).trans h.2.2.1, (hb.frozen (p := ⟨k, 1, none⟩) hk).trans h.2.2.2.1, Nat.lt_of_lt_of_le hk hb.size⟩
theorem Two.at {W : World} {k k' : Nat} {v0 v1 : Value} (h : Two W k v0 v1) (e : k = k') : Two W k' v0 v1 := e ▸ h

theorem ret_wide2 {a b c d : Int} {p q : Bool} (h : a = c) (l : b = d) (k : p = q) :
    Ending.returned (.tuple #[.agg #[.int .u64 a, .int .u64 b], .bool p]) = .returned (.tuple #[.agg #[.int .u64 c, .int .u64 d], .bool q]) := by rw [h, l, k]
theorem ret_wide {a b c d : Int} (h : a = c) (l : b = d) :
    Ending.returned (.agg #[.int .u64 a, .int .u64 b]) = .returned (.agg #[.int .u64 c, .int .u64 d]) := by rw [h, l]

/-! ### The plain arithmetic of carries -/
theorem sum_lo (ah al bh bl : Int) : lo64 (al + bl) = lo64 (val ah al + val bh bl) := by unfold lo64 val; omega
theorem sum_hi0 {ah al bh bl : Int} (h2 : 0 ≤ al) (h2' : al ≤ 18446744073709551615) (h4 : 0 ≤ bl) (h4' : bl ≤ 18446744073709551615) (c : carB al bl = false) : lo64 (ah + bh) = hiW (val ah al + val bh bl) := by
  simp [carB] at c; unfold hiW lo64 hi64 val; omega
theorem sum_hi1 {ah al bh bl : Int} (h2 : 0 ≤ al) (h2' : al ≤ 18446744073709551615) (h4 : 0 ≤ bl) (h4' : bl ≤ 18446744073709551615) (c : carB al bl = true) : lo64 (lo64 (ah + bh) + 1) = hiW (val ah al + val bh bl) := by
  simp [carB] at c; unfold hiW lo64 hi64 val; omega
theorem sum_ov0 {ah al bh bl : Int} (h2 : 0 ≤ al) (h2' : al ≤ 18446744073709551615) (h4 : 0 ≤ bl) (h4' : bl ≤ 18446744073709551615) (c : carB al bl = false) : carB ah bh = ovW (val ah al + val bh bl) := by
  simp [carB] at c; unfold ovW carB val; rw [Bool.eq_iff_iff]; simp; omega
theorem sum_ov1 {ah al bh bl : Int} (h1 : 0 ≤ ah) (h1' : ah ≤ 18446744073709551615) (h2 : 0 ≤ al) (h2' : al ≤ 18446744073709551615) (h3 : 0 ≤ bh) (h3' : bh ≤ 18446744073709551615) (h4 : 0 ≤ bl) (h4' : bl ≤ 18446744073709551615) (c : carB al bl = true) : (carB ah bh || carB (lo64 (ah + bh)) 1) = ovW (val ah al + val bh bl) := by
  simp [carB] at c; unfold ovW carB val lo64; rw [Bool.eq_iff_iff]; simp; omega

set_option maxHeartbeats 400000 in
theorem addWide_any (ah al bh bl : Int) (w : World) (h1 : 0 ≤ ah) (h1' : ah ≤ 18446744073709551615) (h2 : 0 ≤ al) (h2' : al ≤ 18446744073709551615)
    (h3 : 0 ≤ bh) (h3' : bh ≤ 18446744073709551615) (h4 : 0 ≤ bl) (h4' : bl ≤ 18446744073709551615) :
    Calls Try.prog 49 #[wide ah al, wide bh bl] w fun e w' =>
      e = .returned (.tuple #[wide (hiW (val ah al + val bh bl)) (lo64 (val ah al + val bh bl)), .bool (ovW (val ah al + val bh bl))]) ∧ Below w.heap.size w w' := by
  obtain ⟨m1, m2⟩ := lo64_bd (ah + bh)
  by_cases c1 : carB al bl = true
  · have O : Hid _ := sum_ov1 h1 h1' h2 h2' h3 h3' h4 h4' c1
    by_cases c2 : carB ah bh = true
    · go_enter Try.func49, Try.ntmps49
      go_wp2_with (go_at_call 52; refine (addU_any _ _ _ (by first | assumption | omega) (by first | assumption | omega) (by first | assumption | omega) (by first | assumption | omega)).mono ?_; rintro e w' ⟨rfl, rfl⟩)
      go_returns
      exact ⟨ret_wide2 (sum_hi1 h2 h2' h4 h4' c1) (sum_lo _ _ _ _) (by rw [← O.out, c2]; rfl), by go_grown⟩

    · have c2 : carB ah bh = false := by simpa using c2
      go_enter Try.func49, Try.ntmps49
      go_wp2_with (go_at_call 52; refine (addU_any _ _ _ (by first | assumption | omega) (by first | assumption | omega) (by first | assumption | omega) (by first | assumption | omega)).mono ?_; rintro e w' ⟨rfl, rfl⟩)
      go_returns
      exact ⟨ret_wide2 (sum_hi1 h2 h2' h4 h4' c1) (sum_lo _ _ _ _) (by rw [← O.out, c2]; rfl), by go_grown⟩

  · have c1 : carB al bl = false := by simpa using c1
    go_enter Try.func49, Try.ntmps49
    go_wp2_with (go_at_call 52; refine (addU_any _ _ _ (by first | assumption | omega) (by first | assumption | omega) (by first | assumption | omega) (by first | assumption | omega)).mono ?_; rintro e w' ⟨rfl, rfl⟩)
    go_returns
    exact ⟨ret_wide2 (sum_hi0 h2 h2' h4 h4' c1) (sum_lo _ _ _ _) (sum_ov0 h2 h2' h4 h4' c1), by go_grown⟩


/-! ### Plus -/
def plH (s : Int) : Int := if ovW s then 0 else hiW s
def plL (s : Int) : Int := if ovW s then 0 else lo64 s

def lessB (x y : Int) : Bool := decide (x < y)

set_option maxHeartbeats 400000 in
theorem less_any (ah al bh bl : Int) (w : World) (h1 : 0 ≤ ah) (h1' : ah ≤ 18446744073709551615) (h2 : 0 ≤ al) (h2' : al ≤ 18446744073709551615)
    (h3 : 0 ≤ bh) (h3' : bh ≤ 18446744073709551615) (h4 : 0 ≤ bl) (h4' : bl ≤ 18446744073709551615) :
    Calls Try.prog 41 #[wide ah al, wide bh bl] w fun e w' => e = .returned (.bool (lessB (val ah al) (val bh bl))) ∧ Below w.heap.size w w' := by
  have L : Hid (lessB (val ah al) (val bh bl) = if ah = bh then decide (al < bl) else decide (ah < bh)) := by
    show lessB (val ah al) (val bh bl) = _
    unfold lessB val
    split <;> (rw [Bool.eq_iff_iff]; simp; omega)
  by_cases c : ah = bh
  · have n : (ah != bh) = false := by simp [c]
    have L' : Hid _ := L.out.trans (if_pos c)
    clear L
    have C : Hid _ := c
    clear c
    go_enter Try.func41, Try.ntmps41
    go_wp2
    go_ret
    exact ⟨by rw [L'.out]; rfl, by go_grown⟩
  · have n : (ah != bh) = true := by simp [c]
    have L' : Hid _ := L.out.trans (if_neg c)
    clear L
    go_enter Try.func41, Try.ntmps41
    go_wp2
    go_ret
    exact ⟨by rw [L'.out]; rfl, by go_grown⟩

def drH (a b : Int) : Int := if lessB a b then 0 else hiW (a - b)
def drL (a b : Int) : Int := if lessB a b then 0 else lo64 (a - b)
theorem dif_lo (ah al bh bl : Int) : lo64 (al - bl) = lo64 (val ah al - val bh bl) := by unfold lo64 val; omega
theorem dif_hi0 {ah al bh bl : Int} (h2 : 0 ≤ al) (h2' : al ≤ 18446744073709551615) (h4 : 0 ≤ bl) (h4' : bl ≤ 18446744073709551615) (c : borB al bl = false) : lo64 (ah - bh) = hiW (val ah al - val bh bl) := by
  simp [borB] at c; unfold hiW lo64 hi64 val; omega
theorem dif_hi1 {ah al bh bl : Int} (h2 : 0 ≤ al) (h2' : al ≤ 18446744073709551615) (h4 : 0 ≤ bl) (h4' : bl ≤ 18446744073709551615) (c : borB al bl = true) : lo64 (lo64 (ah - bh) - 1) = hiW (val ah al - val bh bl) := by
  simp [borB] at c; unfold hiW lo64 hi64 val; omega

set_option maxHeartbeats 400000 in
theorem drop_any (ah al bh bl : Int) (w : World) (h1 : 0 ≤ ah) (h1' : ah ≤ 18446744073709551615) (h2 : 0 ≤ al) (h2' : al ≤ 18446744073709551615)
    (h3 : 0 ≤ bh) (h3' : bh ≤ 18446744073709551615) (h4 : 0 ≤ bl) (h4' : bl ≤ 18446744073709551615) :
    Calls Try.prog 25 #[wide ah al, wide bh bl] w fun e w' =>
      e = .returned (.tuple #[wide (drH (val ah al) (val bh bl)) (drL (val ah al) (val bh bl)), .bool (!lessB (val ah al) (val bh bl))]) ∧ Below w.heap.size w w' := by
  obtain ⟨m1, m2⟩ := lo64_bd (ah - bh)
  by_cases c : lessB (val ah al) (val bh bl) = true
  · have e1 : drH (val ah al) (val bh bl) = 0 := by simp [drH, c]
    have e2 : drL (val ah al) (val bh bl) = 0 := by simp [drL, c]
    rw [e1, e2, c]
    clear e1 e2
    go_enter Try.func25, Try.ntmps25
    go_wp2_with (go_at_call 41; refine (less_any _ _ _ _ _ (by first | assumption | omega) (by first | assumption | omega) (by first | assumption | omega) (by first | assumption | omega) (by first | assumption | omega) (by first | assumption | omega) (by first | assumption | omega) (by first | assumption | omega)).mono ?_; rintro e w1 ⟨rfl, hb⟩; obtain ⟨q0, q1, g0, g1, z⟩ := ((Two.new _ _ _ _).below hb).at (k' := w.heap.size + 1 + 1) (by simp); have hB : Below w.heap.size w w1 := Below.trans (by go_grown) (hb.mono (by simp; omega)); clear hb)
    exact bodyPost_ret (v := .tuple #[wide 0 0, .bool false]) (by simp [results, Try.results25, go_sem, q0, q1]) rfl ⟨rfl, by go_grown⟩
  · have c : lessB (val ah al) (val bh bl) = false := by simpa using c
    have e1 : drH (val ah al) (val bh bl) = hiW (val ah al - val bh bl) := by simp [drH, c]
    have e2 : drL (val ah al) (val bh bl) = lo64 (val ah al - val bh bl) := by simp [drL, c]
    rw [e1, e2, c]
    clear e1 e2
    by_cases d : borB al bl = true
    · go_enter Try.func25, Try.ntmps25
      go_wp2_with (first | (go_at_call 41; refine (less_any _ _ _ _ _ (by first | assumption | omega) (by first | assumption | omega) (by first | assumption | omega) (by first | assumption | omega) (by first | assumption | omega) (by first | assumption | omega) (by first | assumption | omega) (by first | assumption | omega)).mono ?_; rintro e w1 ⟨rfl, hb⟩; obtain ⟨q0, q1, g0, g1, z⟩ := ((Two.new _ _ _ _).below hb).at (k' := w.heap.size + 1 + 1) (by simp); obtain ⟨q2, q3, _, _, _⟩ := (((Two.new _ _ _ _).alloc _).below hb).at (k' := w.heap.size + 1) (by simp); obtain ⟨q4, q5, _, _, _⟩ := ((((Two.new _ _ _ _).alloc _).alloc _).below hb).at (k' := w.heap.size) (by simp); have hB : Below w.heap.size w w1 := Below.trans (by go_grown) (hb.mono (by simp; omega)); clear hb) | (go_at_call 42; refine (takeU_any _ _ _ (by first | assumption | omega) (by first | assumption | omega) (by first | assumption | omega) (by first | assumption | omega)).mono ?_; rintro e w' ⟨rfl, rfl⟩))
      exact bodyPost_ret (v := .tuple #[wide (lo64 (lo64 (ah - bh) - 1)) (lo64 (al - bl)), .bool true]) (by simp [results, Try.results25, go_sem, q0, q1]) rfl ⟨ret_wide2 (dif_hi1 h2 h2' h4 h4' d) (dif_lo _ _ _ _) rfl, by go_grown⟩
    · have d : borB al bl = false := by simpa using d
      go_enter Try.func25, Try.ntmps25
      go_wp2_with (first | (go_at_call 41; refine (less_any _ _ _ _ _ (by first | assumption | omega) (by first | assumption | omega) (by first | assumption | omega) (by first | assumption | omega) (by first | assumption | omega) (by first | assumption | omega) (by first | assumption | omega) (by first | assumption | omega)).mono ?_; rintro e w1 ⟨rfl, hb⟩; obtain ⟨q0, q1, g0, g1, z⟩ := ((Two.new _ _ _ _).below hb).at (k' := w.heap.size + 1 + 1) (by simp); obtain ⟨q2, q3, _, _, _⟩ := (((Two.new _ _ _ _).alloc _).below hb).at (k' := w.heap.size + 1) (by simp); obtain ⟨q4, q5, _, _, _⟩ := ((((Two.new _ _ _ _).alloc _).alloc _).below hb).at (k' := w.heap.size) (by simp); have hB : Below w.heap.size w w1 := Below.trans (by go_grown) (hb.mono (by simp; omega)); clear hb) | (go_at_call 42; refine (takeU_any _ _ _ (by first | assumption | omega) (by first | assumption | omega) (by first | assumption | omega) (by first | assumption | omega)).mono ?_; rintro e w' ⟨rfl, rfl⟩))
      exact bodyPost_ret (v := .tuple #[wide (lo64 (ah - bh)) (lo64 (al - bl)), .bool true]) (by simp [results, Try.results25, go_sem, q0, q1]) rfl ⟨ret_wide2 (dif_hi0 h2 h2' h4 h4' d) (dif_lo _ _ _ _) rfl, by go_grown⟩

/-! ### square -/
theorem sq_bd {n : Int} (h : 0 ≤ n) (h' : n ≤ 9223372036854775808) : 0 ≤ n * n ∧ n * n ≤ 85070591730234615865843651857942052864 :=
  ⟨Int.mul_nonneg h h, by have := Int.mul_le_mul h' h' h (by omega : (0 : Int) ≤ 9223372036854775808); omega⟩
theorem hi_hiW {p : Int} (h : 0 ≤ p) (h' : p ≤ 85070591730234615865843651857942052864) : hi64 p = hiW p := by unfold hiW lo64 hi64; omega

set_option maxHeartbeats 400000 in
theorem square_any (x : Int) (w : World) (hx : -9223372036854775808 ≤ x) (hx' : x ≤ 9223372036854775807) :
    Calls Try.prog 50 #[.int .i64 x] w fun e w' => e = .returned (wide (hiW (x * x)) (lo64 (x * x))) ∧ Below w.heap.size w w' := by
  by_cases c : x < 0
  · have E : Hid (IntKind.u64.wrap (-IntKind.u64.wrap x) = -x) := by show IntKind.u64.wrap (-IntKind.u64.wrap x) = -x; simp only [IntKind.wrap_u64]; omega
    have S : Hid _ := sq_bd (n := -x) (by omega) (by omega)
    have M : Hid (-x * -x = x * x) := Int.neg_mul_neg x x
    go_enter Try.func50, Try.ntmps50
    go_wp2_with fail
    rw [E.out]
    refine (mul64_any _ _ _ (by omega) (by omega) (by omega) (by omega)).mono ?_
    rintro e w' ⟨rfl, rfl⟩
    go_wp2
    go_returns
    exact ⟨ret_wide (by rw [← M.out]; exact hi_hiW S.out.1 S.out.2) (by rw [← M.out]), by go_grown⟩
  · have E : Hid (IntKind.u64.wrap x = x) := by show IntKind.u64.wrap x = x; simp only [IntKind.wrap_u64]; omega
    have S : Hid _ := sq_bd (n := x) (by omega) (by omega)
    go_enter Try.func50, Try.ntmps50
    go_wp2_with fail
    try rw [E.out]
    refine (mul64_any _ _ _ (by omega) (by omega) (by omega) (by omega)).mono ?_
    rintro e w' ⟨rfl, rfl⟩
    go_wp2
    go_returns
    exact ⟨ret_wide (hi_hiW S.out.1 S.out.2) rfl, by go_grown⟩

end Go.Proofs.Ytcjdfnfaiocdjaa
