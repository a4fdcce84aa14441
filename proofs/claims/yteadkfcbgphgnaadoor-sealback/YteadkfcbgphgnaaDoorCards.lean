/-
  DERIVED. GIVEN WITH THE SEED: THE CARDS: each row of YteadkfcbgphgnaaDoorRows.lean that lists a variable, with what it lists TIED to the program's text (the seventh form; the later family's looks); each row that meets fmt, with fmt's text TOLD by the authors' own Lean function (tested against real Go, not proved from fmt's source: count such statements apart). THE CARD IS WHAT COUNTS. Prove the row's statement (the work); the ties are given (YteadkfcbgphgnaaDoorTie.lean); close each card by the builder's one call (the guide's Derived/Test/ToyasCard.lean, 'card_holds'). Laid BY PROGRAM, IN A SANDBOX (cutbox-door.mjs). By AI agents, Wed Nov 11 2026. No macro, syntax, notation, axiom, sorry.
-/
import Derived.Test.YteadkfcbgphgnaaDoorRows
import GoSem.ClaimSeven
namespace Go.Proofs.YteadkfcbgphgnaaDoor
namespace Rows

/-- THE TIED CARD OF 'eddylaw04.SealWrites'. -/
def sealWritesCard : Claim7 := { stood := { row := sealWritesRow, standIns := [], harness := (true, "22ee23fbe20cb3f378fb40c206181e746bb733713eb87cf79dd65c8bbca5b0b5"), looks := false }, kinds := [], alts := [], laidByText := true, laidKinds := [.data], laidTests := true, laidLooks := .later }
def SealWritesCardSaid : Prop := Claim7.holds Tryd.pinned (.plain (OpenSpec.ofChange sealWritesSpec)) sealWritesCard

/-- THE TIED CARD OF 'eddylaw04.SealOpens'. -/
def sealOpensCard : Claim7 := { stood := { row := sealOpensRow, standIns := [], harness := (true, "22ee23fbe20cb3f378fb40c206181e746bb733713eb87cf79dd65c8bbca5b0b5"), looks := false }, kinds := [], alts := [], laidByText := true, laidKinds := [.data], laidTests := true, laidLooks := .later }
def SealOpensCardSaid : Prop := Claim7.holds Tryd.pinned (.plain (OpenSpec.ofChange sealOpensSpec)) sealOpensCard

/-- THE TIED CARD OF 'eddylaw04.SealAll'. -/
def sealAllCard : Claim7 := { stood := { row := sealAllRow, standIns := [], harness := (true, "22ee23fbe20cb3f378fb40c206181e746bb733713eb87cf79dd65c8bbca5b0b5"), looks := false }, kinds := [], alts := [], laidByText := true, laidKinds := [.data], laidTests := true, laidLooks := .later }
def SealAllCardSaid : Prop := Claim7.holds Tryd.pinned (.plain (OpenSpec.ofChange sealAllSpec)) sealAllCard

/-- THE TIED CARD OF 'eddylaw04.SealBack'. -/
def sealBackCard : Claim7 := { stood := { row := sealBackRow, standIns := [], harness := (true, "22ee23fbe20cb3f378fb40c206181e746bb733713eb87cf79dd65c8bbca5b0b5"), looks := false }, kinds := [], alts := [], laidByText := true, laidKinds := [.data], laidTests := true, laidLooks := .later }
def SealBackCardSaid : Prop := Claim7.holds Tryd.pinned (.plain (OpenSpec.ofChange sealBackSpec)) sealBackCard

/-- THE TIED CARD OF 'eddylaw04.SealSpoilt'. -/
def sealSpoiltCard : Claim7 := { stood := { row := sealSpoiltRow, standIns := [], harness := (true, "22ee23fbe20cb3f378fb40c206181e746bb733713eb87cf79dd65c8bbca5b0b5"), looks := false }, kinds := [], alts := [], laidByText := true, laidKinds := [.data], laidTests := true, laidLooks := .later }
def SealSpoiltCardSaid : Prop := Claim7.holds Tryd.pinned (.plain (OpenSpec.ofChange sealSpoiltSpec)) sealSpoiltCard

/-- THE TIED CARD OF 'eddylaw04.SealFinds'. -/
def sealFindsCard : Claim7 := { stood := { row := sealFindsRow, standIns := [], harness := (true, "22ee23fbe20cb3f378fb40c206181e746bb733713eb87cf79dd65c8bbca5b0b5"), looks := false }, kinds := [], alts := [], laidByText := true, laidKinds := [.data], laidTests := true, laidLooks := .later }
def SealFindsCardSaid : Prop := Claim7.holds Tryd.pinned (.plain (OpenSpec.ofChange sealFindsSpec)) sealFindsCard

/-- THE SECOND FORM's CARD OF 'eddylaw04.SealWrites'. -/
def sealWritesUptoCard : Claim7 := { stood := { row := sealWritesUptoRow, standIns := [], harness := (true, "22ee23fbe20cb3f378fb40c206181e746bb733713eb87cf79dd65c8bbca5b0b5"), looks := false }, kinds := [], alts := [], laidByText := true, laidKinds := [.data], laidTests := true, laidLooks := .later }
def SealWritesUptoCardSaid : Prop := Claim7.holds Tryd.pinned (.plain (OpenSpec.upto sealWritesSpec)) sealWritesUptoCard

/-- THE SECOND FORM's CARD OF 'eddylaw04.SealOpens'. -/
def sealOpensUptoCard : Claim7 := { stood := { row := sealOpensUptoRow, standIns := [], harness := (true, "22ee23fbe20cb3f378fb40c206181e746bb733713eb87cf79dd65c8bbca5b0b5"), looks := false }, kinds := [], alts := [], laidByText := true, laidKinds := [.data], laidTests := true, laidLooks := .later }
def SealOpensUptoCardSaid : Prop := Claim7.holds Tryd.pinned (.plain (OpenSpec.upto sealOpensSpec)) sealOpensUptoCard

/-- THE SECOND FORM's CARD OF 'eddylaw04.SealAll'. -/
def sealAllUptoCard : Claim7 := { stood := { row := sealAllUptoRow, standIns := [], harness := (true, "22ee23fbe20cb3f378fb40c206181e746bb733713eb87cf79dd65c8bbca5b0b5"), looks := false }, kinds := [], alts := [], laidByText := true, laidKinds := [.data], laidTests := true, laidLooks := .later }
def SealAllUptoCardSaid : Prop := Claim7.holds Tryd.pinned (.plain (OpenSpec.upto sealAllSpec)) sealAllUptoCard

/-- THE SECOND FORM's CARD OF 'eddylaw04.SealBack'. -/
def sealBackUptoCard : Claim7 := { stood := { row := sealBackUptoRow, standIns := [], harness := (true, "22ee23fbe20cb3f378fb40c206181e746bb733713eb87cf79dd65c8bbca5b0b5"), looks := false }, kinds := [], alts := [], laidByText := true, laidKinds := [.data], laidTests := true, laidLooks := .later }
def SealBackUptoCardSaid : Prop := Claim7.holds Tryd.pinned (.plain (OpenSpec.upto sealBackSpec)) sealBackUptoCard

/-- THE SECOND FORM's CARD OF 'eddylaw04.SealSpoilt'. -/
def sealSpoiltUptoCard : Claim7 := { stood := { row := sealSpoiltUptoRow, standIns := [], harness := (true, "22ee23fbe20cb3f378fb40c206181e746bb733713eb87cf79dd65c8bbca5b0b5"), looks := false }, kinds := [], alts := [], laidByText := true, laidKinds := [.data], laidTests := true, laidLooks := .later }
def SealSpoiltUptoCardSaid : Prop := Claim7.holds Tryd.pinned (.plain (OpenSpec.upto sealSpoiltSpec)) sealSpoiltUptoCard

/-- THE SECOND FORM's CARD OF 'eddylaw04.SealFinds'. -/
def sealFindsUptoCard : Claim7 := { stood := { row := sealFindsUptoRow, standIns := [], harness := (true, "22ee23fbe20cb3f378fb40c206181e746bb733713eb87cf79dd65c8bbca5b0b5"), looks := false }, kinds := [], alts := [], laidByText := true, laidKinds := [.data], laidTests := true, laidLooks := .later }
def SealFindsUptoCardSaid : Prop := Claim7.holds Tryd.pinned (.plain (OpenSpec.upto sealFindsSpec)) sealFindsUptoCard
end Rows
end Go.Proofs.YteadkfcbgphgnaaDoor
