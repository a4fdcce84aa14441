/-
  What the calls of package num on plain int64 numbers (Fits, Add, Sub, Mul, Half) and the document's own answers for them return, for every input.
-/
import Derived.Test.YtcjdfnfaiocdjaaProg
import Derived.WalkKit
import Derived.ProofKit
import Derived.OpenShut
import Derived.Handy
namespace Go.Proofs.Ytcjdfnfaiocdjaa
open Go.ChangeShapes Go.WideShapes Go.ChangeAt Go.RowKit

def fitsB (x : Int) : Bool := decide (-2147483647 ≤ x ∧ x ≤ 2147483647)

theorem fits_any (x : Int) (w : World) :
    Calls Try.prog 36 #[.int .i64 x] w fun e w' => e = .returned (.bool (fitsB x)) ∧ w' = w := by
  by_cases h1 : -2147483647 ≤ x
  · by_cases h2 : x ≤ 2147483647
    · have hb : fitsB x = true := by simp [fitsB, h1, h2]
      rw [hb]
      go_enter Try.func36, Try.ntmps36
      go_wp2
      go_ret
      exact ⟨rfl, rfl⟩
    · have hb : fitsB x = false := by simp [fitsB, h2]
      rw [hb]
      go_enter Try.func36, Try.ntmps36
      go_wp2
      go_ret
      exact ⟨rfl, rfl⟩
  · have hb : fitsB x = false := by simp [fitsB, h1]
    rw [hb]
    go_enter Try.func36, Try.ntmps36
    go_wp2
    go_ret
    exact ⟨rfl, rfl⟩


theorem rfits_any (x : Int) (w : World) :
    Calls Try.prog 23 #[.int .i64 x] w fun e w' => e = .returned (.bool (fitsB x)) ∧ w' = w := by
  by_cases h1 : -2147483647 ≤ x
  · by_cases h2 : x ≤ 2147483647
    · have hb : fitsB x = true := by simp [fitsB, h1, h2]
      rw [hb]
      go_enter Try.func23, Try.ntmps23
      go_wp2
      go_ret
      exact ⟨rfl, rfl⟩
    · have hb : fitsB x = false := by simp [fitsB, h2]
      rw [hb]
      go_enter Try.func23, Try.ntmps23
      go_wp2
      go_ret
      exact ⟨rfl, rfl⟩
  · have hb : fitsB x = false := by simp [fitsB, h1]
    rw [hb]
    go_enter Try.func23, Try.ntmps23
    go_wp2
    go_ret
    exact ⟨rfl, rfl⟩

/-- A result, if it fits: the number and the error's number. -/
def chkV (x : Int) : Int := if fitsB x then x else 0
def chkE (x : Int) : Int := if fitsB x then 0 else 10
/-- Of two numbers, if both fit: the result x, if that fits. -/
def opV (a b x : Int) : Int := if fitsB a && fitsB b then chkV x else 0
def opE (a b x : Int) : Int := if fitsB a && fitsB b then chkE x else 10
def halfV (a b : Int) : Int := if fitsB a && fitsB b then (a - b).tdiv 2 else 0
def halfE (a b : Int) : Int := if fitsB a && fitsB b then 0 else 10

theorem fitsB_true {x : Int} (h : fitsB x = true) : -2147483647 ≤ x ∧ x ≤ 2147483647 := by simpa [fitsB] using h

theorem checked_any (x : Int) (w : World) :
    Calls Try.prog 38 #[.int .i64 x] w fun e w' => e = .returned (.tuple #[.int .i64 (chkV x), .int .i64 (chkE x)]) ∧ w' = w := by
  by_cases hb : fitsB x = true
  · have hv : chkV x = x := by simp [chkV, hb]
    have he : chkE x = 0 := by simp [chkE, hb]
    rw [hv, he]
    clear hv he
    go_enter Try.func38, Try.ntmps38
    go_wp2_with (go_at_call 36; refine (fits_any _ _).mono ?_; rintro e w' ⟨rfl, rfl⟩)
    go_ret2
    exact ⟨rfl, rfl⟩
  · have hb : fitsB x = false := by simpa using hb
    have hv : chkV x = 0 := by simp [chkV, hb]
    have he : chkE x = 10 := by simp [chkE, hb]
    rw [hv, he]
    clear hv he
    go_enter Try.func38, Try.ntmps38
    go_wp2_with (go_at_call 36; refine (fits_any _ _).mono ?_; rintro e w' ⟨rfl, rfl⟩)
    go_ret2
    exact ⟨rfl, rfl⟩

theorem mul_bd {a b : Int} (ha : -2147483647 ≤ a ∧ a ≤ 2147483647) (hb : -2147483647 ≤ b ∧ b ≤ 2147483647) : -4611686014132420609 ≤ a * b ∧ a * b ≤ 4611686014132420609 := by
  have h : (a * b).natAbs ≤ 2147483647 * 2147483647 := by
    rw [Int.natAbs_mul]
    exact Nat.mul_le_mul (by omega) (by omega)
  omega

theorem sub_any (a b : Int) (w : World) :
    Calls Try.prog 20 #[.int .i64 a, .int .i64 b] w fun e w' => e = .returned (.tuple #[.int .i64 (opV a b (a - b)), .int .i64 (opE a b (a - b))]) ∧ w' = w := by
  by_cases ha : fitsB a = true
  · by_cases hb : fitsB b = true
    · have hv : opV a b (a - b) = chkV (a - b) := by simp [opV, ha, hb]
      have he : opE a b (a - b) = chkE (a - b) := by simp [opE, ha, hb]
      rw [hv, he]
      clear hv he
      have la := fitsB_true ha
      have lb := fitsB_true hb
      obtain ⟨la1, la2⟩ := la
      obtain ⟨lb1, lb2⟩ := lb
      go_enter Try.func20, Try.ntmps20
      go_wp2_with (first | (go_at_call 36; refine (fits_any _ _).mono ?_; rintro e w' ⟨rfl, rfl⟩) | (go_at_call 38; refine (checked_any _ _).mono ?_; rintro e w' ⟨rfl, rfl⟩) | go_in)
      go_ret2
      exact ⟨rfl, rfl⟩
    · have hb : fitsB b = false := by simpa using hb
      have hv : opV a b (a - b) = 0 := by simp [opV, hb]
      have he : opE a b (a - b) = 10 := by simp [opE, hb]
      rw [hv, he]
      clear hv he
      go_enter Try.func20, Try.ntmps20
      go_wp2_with (first | (go_at_call 36; refine (fits_any _ _).mono ?_; rintro e w' ⟨rfl, rfl⟩))
      go_ret2
      exact ⟨rfl, rfl⟩
  · have ha : fitsB a = false := by simpa using ha
    have hv : opV a b (a - b) = 0 := by simp [opV, ha]
    have he : opE a b (a - b) = 10 := by simp [opE, ha]
    rw [hv, he]
    clear hv he
    go_enter Try.func20, Try.ntmps20
    go_wp2_with (first | (go_at_call 36; refine (fits_any _ _).mono ?_; rintro e w' ⟨rfl, rfl⟩))
    go_ret2
    exact ⟨rfl, rfl⟩

theorem half_any (a b : Int) (w : World) :
    Calls Try.prog 29 #[.int .i64 a, .int .i64 b] w fun e w' => e = .returned (.tuple #[.int .i64 (halfV a b), .int .i64 (halfE a b)]) ∧ w' = w := by
  by_cases ha : fitsB a = true
  · by_cases hb : fitsB b = true
    · have hv : halfV a b = (a - b).tdiv 2 := by simp [halfV, ha, hb]
      have he : halfE a b = 0 := by simp [halfE, ha, hb]
      rw [hv, he]
      clear hv he
      have la := fitsB_true ha
      have lb := fitsB_true hb
      obtain ⟨la1, la2⟩ := la
      obtain ⟨lb1, lb2⟩ := lb
      go_enter Try.func29, Try.ntmps29
      go_wp2_with (first | (go_at_call 36; refine (fits_any _ _).mono ?_; rintro e w' ⟨rfl, rfl⟩) | go_in)
      go_ret2
      exact ⟨rfl, rfl⟩
    · have hb : fitsB b = false := by simpa using hb
      have hv : halfV a b = 0 := by simp [halfV, hb]
      have he : halfE a b = 10 := by simp [halfE, hb]
      rw [hv, he]
      clear hv he
      go_enter Try.func29, Try.ntmps29
      go_wp2_with (first | (go_at_call 36; refine (fits_any _ _).mono ?_; rintro e w' ⟨rfl, rfl⟩))
      go_ret2
      exact ⟨rfl, rfl⟩
  · have ha : fitsB a = false := by simpa using ha
    have hv : halfV a b = 0 := by simp [halfV, ha]
    have he : halfE a b = 10 := by simp [halfE, ha]
    rw [hv, he]
    clear hv he
    go_enter Try.func29, Try.ntmps29
    go_wp2_with (first | (go_at_call 36; refine (fits_any _ _).mono ?_; rintro e w' ⟨rfl, rfl⟩))
    go_ret2
    exact ⟨rfl, rfl⟩

end Go.Proofs.Ytcjdfnfaiocdjaa
