/-
  The faces' contracts, one outcome each.
-/
import Derived.Test.YteadkfcbgphgnaaDoorROpens
namespace Go.Proofs.YteadkfcbgphgnaaDoor
open Go.ChangeShapes Go.WideShapes Go.ChangeAt Go.RowKit
set_option linter.unusedVariables false

theorem seal_ok (a : Option Addr) (len cap : Nat) (zs : List Int) (w : World) (R : Row .u8 w a len cap zs) (ht : Tab w) (h : len ≤ 65535) :
    Calls Tryd.prog 10 #[.slice a len cap] w fun e w' => ∃ v, e = .returned (.tuple #[v, .int .i64 0]) ∧ Own w.heap.size w' v (frm zs) ∧ Below w.heap.size w w' :=
  (seal_any a len cap zs w R ht (by omega)).mono fun e w' ⟨h1, h2⟩ => by
    unfold SealOut at h1
    rw [if_neg (by have := R.size; omega)] at h1
    obtain ⟨v, h3, h4⟩ := h1
    exact ⟨v, h3, h4, h2⟩
theorem seal_no (a : Option Addr) (len cap : Nat) (zs : List Int) (w : World) (R : Row .u8 w a len cap zs) (ht : Tab w) (h : 65535 < len) (hl : len ≤ 9223372036854775807) :
    Calls Tryd.prog 10 #[.slice a len cap] w fun e w' => e = .returned (.tuple #[.slice none 0 0, .int .i64 23]) ∧ Below w.heap.size w w' :=
  (seal_any a len cap zs w R ht hl).mono fun e w' ⟨h1, h2⟩ => by
    unfold SealOut at h1
    rw [if_pos (by have := R.size; omega)] at h1
    exact ⟨h1, h2⟩
theorem rseal_ok (a : Option Addr) (len cap : Nat) (zs : List Int) (w : World) (R : Row .u8 w a len cap zs) (h : len ≤ 65535) :
    Calls Tryd.prog 11 #[.slice a len cap] w fun e w' => ∃ v, e = .returned (.tuple #[v, .int .i64 0]) ∧ Own w.heap.size w' v (frm zs) ∧ Below w.heap.size w w' :=
  (rseal_any a len cap zs w R (by omega)).mono fun e w' ⟨h1, h2⟩ => by
    unfold SealOut at h1
    rw [if_neg (by have := R.size; omega)] at h1
    obtain ⟨v, h3, h4⟩ := h1
    exact ⟨v, h3, h4, h2⟩
theorem rseal_no (a : Option Addr) (len cap : Nat) (zs : List Int) (w : World) (R : Row .u8 w a len cap zs) (h : 65535 < len) (hl : len ≤ 9223372036854775807) :
    Calls Tryd.prog 11 #[.slice a len cap] w fun e w' => e = .returned (.tuple #[.slice none 0 0, .int .i64 23]) ∧ Below w.heap.size w w' :=
  (rseal_any a len cap zs w R hl).mono fun e w' ⟨h1, h2⟩ => by
    unfold SealOut at h1
    rw [if_pos (by have := R.size; omega)] at h1
    exact ⟨h1, h2⟩
theorem open_ok (a : Option Addr) (len cap : Nat) (zs : List Int) (w : World) (R : Row .u8 w a len cap zs) (ht : Tab w) (hl : len ≤ 140737488355328) (hcap : cap ≤ 9223372036854775807) (b : List Int) (n : Nat) (h : opn zs = .ok (b, n)) :
    Calls Tryd.prog 16 #[.slice a len cap] w fun e w' => ∃ v, e = .returned (.tuple #[v, .int .i64 n, .int .i64 0]) ∧ Own w.heap.size w' v b ∧ Below w.heap.size w w' :=
  (open_any a len cap zs w R ht hl hcap).mono fun e w' ⟨h1, h2⟩ => by
    rw [h] at h1
    obtain ⟨v, h3, h4⟩ := h1
    exact ⟨v, h3, h4, h2⟩
theorem open_no (a : Option Addr) (len cap : Nat) (zs : List Int) (w : World) (R : Row .u8 w a len cap zs) (ht : Tab w) (hl : len ≤ 140737488355328) (hcap : cap ≤ 9223372036854775807) (c : Int) (h : opn zs = .error c) :
    Calls Tryd.prog 16 #[.slice a len cap] w fun e w' => e = .returned (.tuple #[.slice none 0 0, .int .i64 0, .int .i64 c]) ∧ Below w.heap.size w w' :=
  (open_any a len cap zs w R ht hl hcap).mono fun e w' ⟨h1, h2⟩ => by
    rw [h] at h1
    exact ⟨h1, h2⟩
theorem ropen_ok (a : Option Addr) (len cap : Nat) (zs : List Int) (w : World) (R : Row .u8 w a len cap zs) (hl : len ≤ 140737488355328) (hcap : cap ≤ 9223372036854775807) (b : List Int) (n : Nat) (h : opn zs = .ok (b, n)) :
    Calls Tryd.prog 17 #[.slice a len cap] w fun e w' => ∃ v, e = .returned (.tuple #[v, .int .i64 n, .int .i64 0]) ∧ Own w.heap.size w' v b ∧ Below w.heap.size w w' :=
  (ropen_any a len cap zs w R hl hcap).mono fun e w' ⟨h1, h2⟩ => by
    rw [h] at h1
    obtain ⟨v, h3, h4⟩ := h1
    exact ⟨v, h3, h4, h2⟩
theorem ropen_no (a : Option Addr) (len cap : Nat) (zs : List Int) (w : World) (R : Row .u8 w a len cap zs) (hl : len ≤ 140737488355328) (hcap : cap ≤ 9223372036854775807) (c : Int) (h : opn zs = .error c) :
    Calls Tryd.prog 17 #[.slice a len cap] w fun e w' => e = .returned (.tuple #[.slice none 0 0, .int .i64 0, .int .i64 c]) ∧ Below w.heap.size w w' :=
  (ropen_any a len cap zs w R hl hcap).mono fun e w' ⟨h1, h2⟩ => by
    rw [h] at h1
    exact ⟨h1, h2⟩

end Go.Proofs.YteadkfcbgphgnaaDoor
