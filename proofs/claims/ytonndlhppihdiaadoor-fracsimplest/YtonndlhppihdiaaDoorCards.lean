/-
  DERIVED. GIVEN WITH THE SEED: THE CARDS: each row of YtonndlhppihdiaaDoorRows.lean that lists a variable, with what it lists TIED to the program's text (the seventh form; the later family's looks); each row that meets fmt, with fmt's text TOLD by the authors' own Lean function (tested against real Go, not proved from fmt's source: count such statements apart). THE CARD IS WHAT COUNTS. Prove the row's statement (the work); the ties are given (YtonndlhppihdiaaDoorTie.lean); close each card by the builder's one call (the guide's Derived/Test/ToyasCard.lean, 'card_holds'). Laid BY PROGRAM, IN A SANDBOX (cutbox-door.mjs). By AI agents, Wed Nov 11 2026. No macro, syntax, notation, axiom, sorry.
-/
import Derived.Test.YtonndlhppihdiaaDoorRows
import GoSem.ClaimSeven
namespace Go.Proofs.YtonndlhppihdiaaDoor
namespace Rows

/-- THE TIED CARD OF 'eddylaw02.FracMakes'. -/
def fracMakesCard : Claim7 := { stood := { row := fracMakesRow, standIns := [], harness := (true, "2fde11fcf06b8d29e10d78eaf544bf763f73f425bfa950e174981aaf4c0b641d"), looks := false }, kinds := [], alts := [], laidByText := true, laidKinds := [.data, .data, .data], laidTests := true, laidLooks := .later }
def FracMakesCardSaid : Prop := Claim7.holds Tryd.pinned (.plain (OpenSpec.ofChange fracMakesSpec)) fracMakesCard

/-- THE TIED CARD OF 'eddylaw02.FracReckons'. -/
def fracReckonsCard : Claim7 := { stood := { row := fracReckonsRow, standIns := [], harness := (true, "2fde11fcf06b8d29e10d78eaf544bf763f73f425bfa950e174981aaf4c0b641d"), looks := false }, kinds := [], alts := [], laidByText := true, laidKinds := [.data, .data, .data], laidTests := true, laidLooks := .later }
def FracReckonsCardSaid : Prop := Claim7.holds Tryd.pinned (.plain (OpenSpec.ofChange fracReckonsSpec)) fracReckonsCard

/-- THE TIED CARD OF 'eddylaw02.FracWhole'. -/
def fracWholeCard : Claim7 := { stood := { row := fracWholeRow, standIns := [], harness := (true, "2fde11fcf06b8d29e10d78eaf544bf763f73f425bfa950e174981aaf4c0b641d"), looks := false }, kinds := [], alts := [], laidByText := true, laidKinds := [.data, .data, .data], laidTests := true, laidLooks := .later }
def FracWholeCardSaid : Prop := Claim7.holds Tryd.pinned (.plain (OpenSpec.ofChange fracWholeSpec)) fracWholeCard

/-- THE TIED CARD OF 'eddylaw02.FracTerms'. -/
def fracTermsCard : Claim7 := { stood := { row := fracTermsRow, standIns := [], harness := (true, "2fde11fcf06b8d29e10d78eaf544bf763f73f425bfa950e174981aaf4c0b641d"), looks := false }, kinds := [], alts := [], laidByText := true, laidKinds := [.data, .data, .data], laidTests := true, laidLooks := .later }
def FracTermsCardSaid : Prop := Claim7.holds Tryd.pinned (.plain (OpenSpec.ofChange fracTermsSpec)) fracTermsCard

/-- THE TIED CARD OF 'eddylaw02.FracNear'. -/
def fracNearCard : Claim7 := { stood := { row := fracNearRow, standIns := [], harness := (true, "2fde11fcf06b8d29e10d78eaf544bf763f73f425bfa950e174981aaf4c0b641d"), looks := false }, kinds := [], alts := [], laidByText := true, laidKinds := [.data, .data, .data], laidTests := true, laidLooks := .later }
def FracNearCardSaid : Prop := Claim7.holds Tryd.pinned (.plain (OpenSpec.ofChange fracNearSpec)) fracNearCard

/-- THE TIED CARD OF 'eddylaw02.FracSimplest'. -/
def fracSimplestCard : Claim7 := { stood := { row := fracSimplestRow, standIns := [], harness := (true, "2fde11fcf06b8d29e10d78eaf544bf763f73f425bfa950e174981aaf4c0b641d"), looks := false }, kinds := [], alts := [], laidByText := true, laidKinds := [.data, .data, .data], laidTests := true, laidLooks := .later }
def FracSimplestCardSaid : Prop := Claim7.holds Tryd.pinned (.plain (OpenSpec.ofChange fracSimplestSpec)) fracSimplestCard

/-- THE SECOND FORM's CARD OF 'eddylaw02.FracMakes'. -/
def fracMakesUptoCard : Claim7 := { stood := { row := fracMakesUptoRow, standIns := [], harness := (true, "2fde11fcf06b8d29e10d78eaf544bf763f73f425bfa950e174981aaf4c0b641d"), looks := false }, kinds := [], alts := [], laidByText := true, laidKinds := [.data, .data, .data], laidTests := true, laidLooks := .later }
def FracMakesUptoCardSaid : Prop := Claim7.holds Tryd.pinned (.plain (OpenSpec.upto fracMakesSpec)) fracMakesUptoCard

/-- THE SECOND FORM's CARD OF 'eddylaw02.FracReckons'. -/
def fracReckonsUptoCard : Claim7 := { stood := { row := fracReckonsUptoRow, standIns := [], harness := (true, "2fde11fcf06b8d29e10d78eaf544bf763f73f425bfa950e174981aaf4c0b641d"), looks := false }, kinds := [], alts := [], laidByText := true, laidKinds := [.data, .data, .data], laidTests := true, laidLooks := .later }
def FracReckonsUptoCardSaid : Prop := Claim7.holds Tryd.pinned (.plain (OpenSpec.upto fracReckonsSpec)) fracReckonsUptoCard

/-- THE SECOND FORM's CARD OF 'eddylaw02.FracWhole'. -/
def fracWholeUptoCard : Claim7 := { stood := { row := fracWholeUptoRow, standIns := [], harness := (true, "2fde11fcf06b8d29e10d78eaf544bf763f73f425bfa950e174981aaf4c0b641d"), looks := false }, kinds := [], alts := [], laidByText := true, laidKinds := [.data, .data, .data], laidTests := true, laidLooks := .later }
def FracWholeUptoCardSaid : Prop := Claim7.holds Tryd.pinned (.plain (OpenSpec.upto fracWholeSpec)) fracWholeUptoCard

/-- THE SECOND FORM's CARD OF 'eddylaw02.FracTerms'. -/
def fracTermsUptoCard : Claim7 := { stood := { row := fracTermsUptoRow, standIns := [], harness := (true, "2fde11fcf06b8d29e10d78eaf544bf763f73f425bfa950e174981aaf4c0b641d"), looks := false }, kinds := [], alts := [], laidByText := true, laidKinds := [.data, .data, .data], laidTests := true, laidLooks := .later }
def FracTermsUptoCardSaid : Prop := Claim7.holds Tryd.pinned (.plain (OpenSpec.upto fracTermsSpec)) fracTermsUptoCard

/-- THE SECOND FORM's CARD OF 'eddylaw02.FracNear'. -/
def fracNearUptoCard : Claim7 := { stood := { row := fracNearUptoRow, standIns := [], harness := (true, "2fde11fcf06b8d29e10d78eaf544bf763f73f425bfa950e174981aaf4c0b641d"), looks := false }, kinds := [], alts := [], laidByText := true, laidKinds := [.data, .data, .data], laidTests := true, laidLooks := .later }
def FracNearUptoCardSaid : Prop := Claim7.holds Tryd.pinned (.plain (OpenSpec.upto fracNearSpec)) fracNearUptoCard

/-- THE SECOND FORM's CARD OF 'eddylaw02.FracSimplest'. -/
def fracSimplestUptoCard : Claim7 := { stood := { row := fracSimplestUptoRow, standIns := [], harness := (true, "2fde11fcf06b8d29e10d78eaf544bf763f73f425bfa950e174981aaf4c0b641d"), looks := false }, kinds := [], alts := [], laidByText := true, laidKinds := [.data, .data, .data], laidTests := true, laidLooks := .later }
def FracSimplestUptoCardSaid : Prop := Claim7.holds Tryd.pinned (.plain (OpenSpec.upto fracSimplestSpec)) fracSimplestUptoCard
end Rows
end Go.Proofs.YtonndlhppihdiaaDoor
