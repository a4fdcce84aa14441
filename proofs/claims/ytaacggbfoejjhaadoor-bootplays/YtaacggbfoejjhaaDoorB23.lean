/-
  The document's own Next; both side by side.
-/
import Derived.Test.YtaacggbfoejjhaaDoorB22
import Derived.Test.YtaacggbfoejjhaaDoorB16
namespace Go.Proofs.YtaacggbfoejjhaaDoor
open Go.ChangeShapes Go.WideShapes Go.ChangeAt Go.RowKit
open D
set_option linter.unusedVariables false
set_option linter.unusedSimpArgs false

/-- The document's disk behind some of a record's writes. -/
def rts (T : DS) (i : Nat) (r : List Int) : Nat → DS
  | 0 => T
  | j + 1 => rwS (rts T i r j) ((i * 2 + j : Nat) : Int) 16 (hlf r j)
def rwc (T : DS) (i : Nat) (r : List Int) (j : Nat) : Int := wrC (rts T i r j) ((i * 2 + j : Nat) : Int) 16
def rstoC (T : DS) (i : Nat) (r : List Int) : Int := if rwc T i r 0 = 0 then rwc T i r 1 else rwc T i r 0
def rstoS (T : DS) (i : Nat) (r : List Int) : DS := if rwc T i r 0 = 0 then rts T i r 2 else rts T i r 1
def rnC (T : DS) : Int := if ldC T = 0 then (if mx (ldV T) = 1099511627776 then 33 else rstoC T (lsrS (ldV T)) (nxV T)) else ldC T
def rnS (T : DS) : DS := if ldC T = 0 then (if mx (ldV T) = 1099511627776 then T else rstoS T (lsrS (ldV T)) (nxV T)) else T
def rnN (T : DS) : Int := if rnC T = 0 then ((mx (ldV T) + 1 : Nat) : Int) else 0
theorem sim_rts {S T : DS} (h : Sim S T) (i : Nat) (r : List Int) : ∀ j, Sim (sts S i r j) (rts T i r j)
  | 0 => h
  | j + 1 => (sim_wr (sim_rts h i r j) _ _ _).2
theorem sim_rwc {S T : DS} (h : Sim S T) (i : Nat) (r : List Int) (j : Nat) : rwc T i r j = wcs S i r j := (sim_wr (sim_rts h i r j) _ _ []).1
theorem sim_ld {S T : DS} (h : Sim S T) : ldC T = ldC S ∧ ldV T = ldV S := by
  unfold ldC ldV
  rw [h.gone, h.n, h.bs]
  exact ⟨rfl, rfl⟩
theorem sim_next {S T : DS} (h : Sim S T) : rnN T = nxN S ∧ rnC T = nxC S ∧ Sim (nxS S) (rnS T) := by
  obtain ⟨e1, e2⟩ := sim_ld h
  have ev : nxV T = nxV S := by unfold nxV; rw [e2]
  have eC : rnC T = nxC S := by
    unfold rnC nxC rstoC stoC
    rw [e1, e2, ev, sim_rwc h, sim_rwc h]
  refine ⟨by unfold rnN nxN; rw [eC, e2], eC, ?_⟩
  unfold rnS nxS rstoS stoS
  rw [e1, e2, ev, sim_rwc h]
  split
  · split
    · exact h
    · split
      · exact sim_rts h _ _ 2
      · exact sim_rts h _ _ 1
  · exact h
set_option maxRecDepth 100000 in
set_option maxHeartbeats 4000000 in
theorem rnext_no (r m : Nat) (w : World) (C : Int) (hC : (C != 0) = true) (KS : Calls Tryd.prog 33 #[.pointer (some ⟨r, 0, none⟩)] w fun e w' => e = .returned (.tuple #[.int .i64 0, .int .i64 0, .int .i64 C]) ∧ Below w.heap.size w w') :
    Calls Tryd.prog 30 #[.pointer (some ⟨r, 0, none⟩)] w fun e w' => e = .returned (.tuple #[.int .i64 0, .int .i64 C]) ∧ Below w.heap.size w w' := by
  go_enter Tryd.func30, Tryd.ntmps30
  go_wp2_with (first
    | (go_at_call 33; refine KS.mono ?_; rintro e w1 ⟨rfl, b1⟩))
  go_ret2
  exact ⟨rfl, b1⟩
end Go.Proofs.YtaacggbfoejjhaaDoor
