/-
  Package boot: a number as bytes, a record's bytes, and what stands in bytes.
-/
import Derived.Test.YtaacggbfoejjhaaDoorSSums
import Derived.Test.YtaacggbfoejjhaaDoorDDl1
namespace Go.Proofs.YtaacggbfoejjhaaDoor
open Go.ChangeShapes Go.WideShapes Go.ChangeAt Go.RowKit
open D
set_option linter.unusedVariables false
set_option linter.unusedSimpArgs false

/-- A number's lowest k bytes, the lowest first. -/
def le : Nat → Nat → List Int
  | 0, _ => []
  | k + 1, n => ((n % 256 : Nat) : Int) :: le k (n / 256)
theorem le_len (k : Nat) : ∀ n, (le k n).length = k := by induction k with
  | zero => intro n; rfl
  | succ k ih => intro n; simp [le, ih]
theorem le_byt (k : Nat) : ∀ n, Byt (le k n) := by induction k with
  | zero => intro n c hc; cases hc
  | succ k ih =>
    intro n c hc
    rcases List.mem_cons.1 hc with rfl | hc
    · omega
    · exact ih _ c hc
theorem le_snoc (k : Nat) : ∀ n, le (k + 1) n = le k n ++ [((n / 2 ^ (8 * k) % 256 : Nat) : Int)] := by induction k with
  | zero => intro n; simp [le]
  | succ k ih =>
    intro n
    rw [le, ih, le, List.cons_append, Nat.div_div_eq_div_mul, show 8 * (k + 1) = 8 + 8 * k by omega, Nat.pow_add]
/-- The number that bytes tell, the lowest first. -/
def tell : List Int → Nat
  | [] => 0
  | z :: r => z.toNat + 256 * tell r
theorem tell_le (k : Nat) : ∀ n, n < 2 ^ (8 * k) → tell (le k n) = n := by induction k with
  | zero => intro n h; have : n = 0 := by simpa using h
            subst this; rfl
  | succ k ih =>
    intro n h
    have h2 : n / 256 < 2 ^ (8 * k) := by
      rw [show 8 * (k + 1) = 8 * k + 8 by omega, Nat.pow_add] at h
      exact Nat.div_lt_of_lt_mul (by omega)
    simp only [le, tell, ih _ h2]
    omega
theorem tell_lt : ∀ (zs : List Int), Byt zs → tell zs < 2 ^ (8 * zs.length) := by
  intro zs
  induction zs with
  | nil => intro _; simp [tell]
  | cons z r ih =>
    intro h
    have h1 := h z (List.mem_cons_self ..)
    have h2 := ih (fun c hc => h c (List.mem_cons_of_mem _ hc))
    simp only [tell, List.length_cons]
    rw [show 8 * (r.length + 1) = 8 * r.length + 8 by omega, Nat.pow_add]
    omega
theorem tell_snoc : ∀ (zs : List Int) (z : Int), tell (zs ++ [z]) = tell zs + z.toNat * 2 ^ (8 * zs.length) := by
  intro zs z
  induction zs with
  | nil => simp [tell]
  | cons y r ih =>
    simp only [List.cons_append, tell, ih, List.length_cons]
    rw [show 8 * (r.length + 1) = 8 * r.length + 8 by omega, Nat.pow_add, Nat.mul_add]
    have : 256 * (z.toNat * 2 ^ (8 * r.length)) = z.toNat * (2 ^ (8 * r.length) * 2 ^ 8) := by
      rw [Nat.mul_left_comm, Nat.mul_comm 256]
    omega
def mark : List Int := [69, 68, 68, 89, 66, 79, 79, 84]
theorem mark_byt : Byt mark := by intro c hc; simp [mark] at hc; omega
/-- A record's two sectors. -/
def recA (n : Nat) : List Int := le 8 n ++ mark
def recB (n : Nat) : List Int := le 4 (S.sumB (recA n)) ++ (le 8 n ++ [0, 0, 0, 0])
def recd (n : Nat) : List Int := recA n ++ recB n
theorem recA_len (n : Nat) : (recA n).length = 16 := by simp [recA, le_len, mark]
theorem recB_len (n : Nat) : (recB n).length = 16 := by simp [recB, le_len]
theorem rec_len (n : Nat) : (recd n).length = 32 := by simp [recd, recA_len, recB_len]
theorem byt_app {a b : List Int} (h : Byt a) (k : Byt b) : Byt (a ++ b) := fun c hc => (List.mem_append.1 hc).elim (h c) (k c)
theorem recA_byt (n : Nat) : Byt (recA n) := byt_app (le_byt _ _) mark_byt
theorem recB_byt (n : Nat) : Byt (recB n) := byt_app (le_byt _ _) (byt_app (le_byt _ _) (by intro c hc; simp at hc; omega))
theorem rec_byt (n : Nat) : Byt (recd n) := byt_app (recA_byt n) (recB_byt n)
theorem rec_take (n : Nat) : (recd n).take 8 = le 8 n := by
  unfold recd recA
  rw [List.append_assoc, List.take_append_of_le_length (by rw [le_len]; omega), List.take_of_length_le (by rw [le_len]; omega)]
def fitB (n : Nat) : Bool := decide (1 ≤ n) && decide (n ≤ 1099511627776)
/-- The number that stands in a slot's bytes; 0: none. -/
def stand (zs : List Int) : Nat := if fitB (tell (zs.take 8)) = true ∧ zs = recd (tell (zs.take 8)) then tell (zs.take 8) else 0
theorem stand_rec {n : Nat} (h : fitB n = true) : stand (recd n) = n := by
  have hn : n < 2 ^ (8 * 8) := by simp [fitB] at h; omega
  unfold stand
  rw [rec_take, tell_le 8 n hn, if_pos ⟨h, rfl⟩]
theorem stand_le (zs : List Int) : stand zs ≤ 1099511627776 := by
  unfold stand
  split
  · rename_i h; simp [fitB] at h; omega
  · omega
/-- What stands is a record. -/
theorem stand_is {zs : List Int} {n : Nat} (h : stand zs = n) (h0 : n ≠ 0) : zs = recd n ∧ fitB n = true := by
  unfold stand at h
  split at h
  · rename_i hh; rw [h] at hh; exact ⟨hh.2, hh.1⟩
  · omega
end Go.Proofs.YtaacggbfoejjhaaDoor
