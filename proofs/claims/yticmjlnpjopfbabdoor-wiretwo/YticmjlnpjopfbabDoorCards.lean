/-
  DERIVED. GIVEN WITH THE SEED: THE CARDS: each row of YticmjlnpjopfbabDoorRows.lean that lists a variable, with what it lists TIED to the program's text (the seventh form; the later family's looks); each row that meets fmt, with fmt's text TOLD by the authors' own Lean function (tested against real Go, not proved from fmt's source: count such statements apart). THE CARD IS WHAT COUNTS. Prove the row's statement (the work); the ties are given (YticmjlnpjopfbabDoorTie.lean); close each card by the builder's one call (the guide's Derived/Test/ToyasCard.lean, 'card_holds'). Laid BY PROGRAM, IN A SANDBOX (cutbox-door.mjs). By AI agents, Wed Nov 11 2026. No macro, syntax, notation, axiom, sorry.
-/
import Derived.Test.YticmjlnpjopfbabDoorRows
import GoSem.ClaimSeven
namespace Go.Proofs.YticmjlnpjopfbabDoor
namespace Rows

/-- THE TIED CARD OF 'eddylaw05.WireTwo'. -/
def wireTwoCard : Claim7 := { stood := { row := wireTwoRow, standIns := [], harness := (true, "878c7c7660ccc4dc67d97582245e3f5e3b6a4c4d443708d2e05a82c2a49ffb4a"), looks := true }, kinds := [], alts := [], laidByText := true, laidKinds := [.data], laidTests := true, laidLooks := .later }
def WireTwoCardSaid : Prop := Claim7.holds Tryd.pinned (.plain (OpenSpec.ofChange wireTwoSpec)) wireTwoCard

/-- THE SECOND FORM's CARD OF 'eddylaw05.WireTwo'. -/
def wireTwoUptoCard : Claim7 := { stood := { row := wireTwoUptoRow, standIns := [], harness := (true, "878c7c7660ccc4dc67d97582245e3f5e3b6a4c4d443708d2e05a82c2a49ffb4a"), looks := true }, kinds := [], alts := [], laidByText := true, laidKinds := [.data], laidTests := true, laidLooks := .later }
def WireTwoUptoCardSaid : Prop := Claim7.holds Tryd.pinned (.plain (OpenSpec.upto wireTwoSpec)) wireTwoUptoCard
end Rows
end Go.Proofs.YticmjlnpjopfbabDoor
