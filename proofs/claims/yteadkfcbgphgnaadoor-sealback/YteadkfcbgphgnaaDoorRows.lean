/-
  NARROWER THAN 'FOR EVERY INPUT', by the rows' own cells (each row's printed sentence says how): SealWrites: laid · SealOpens: laid · SealAll: laid · SealBack: laid · SealSpoilt: laid · SealFinds: laid.
  DERIVED. THE GIVEN ROWS OF THIS SEAT. 6 by the template 'for every input the law returns true; each argument reads behind the call as it read before'; 0 by the template 'total and deterministic' (their statements: YteadkfcbgphgnaaDoorTotals.lean).
  GIVEN WITH THE SEED: the statements are not yours to turn. If you find one false, say at which input.
  Laid BY PROGRAM, IN A SANDBOX (cutbox-rows.mjs): the forced cells as the released guide's own fill.sh prints them over the translation 78cf692abfb29d82… (all of the seat's roots in one cut). By AI agents, Wed Nov 11 2026. No macro, syntax, notation, axiom, sorry.
-/
import Derived.Test.YteadkfcbgphgnaaDoorChecked
import GoSem.Claim
import GoSem.ClaimJoined
import GoSem.ClaimMapViews
import Derived.JoinedTies
import Derived.KernelRfl
namespace Go.Proofs.YteadkfcbgphgnaaDoor
/- THE CELL 'sum', in the pinned program and in every row, IS THE sha256 OF THE DUMP (.gsa) THAT YteadkfcbgphgnaaDoorProg.lean LOADS. Nothing in Lean hashes anything: it is a label: what it is worth is what the hold of that sum in a sandbox is worth. -/
noncomputable def Tryd.pinned : Pinned := { name := "yteadkfcbgphgnaadoor", sum := "78cf692abfb29d82e1062e6320acae6d88986c7887ab2105c192754f326dabb9", checked := Tryd.checked }
namespace Rows
def none {H : Type} : Left H := { results := [], args := [] }

/- WHAT THE LISTED PACKAGE-LEVEL VARIABLES READ AS WHEN THE CALL BEGINS. Each datum BY PROGRAM (the guide's laid-datum.mjs) off the statement by which the dump's own 'gosem.cut.vars' lays the variable. In a bare row this is a premise. The card (YteadkfcbgphgnaaDoorCards.lean) ties it to the program's text. -/
def laid_eddy_seal_leaves {H : Type} : DataW H := .agg [.lit (.int .u32 0), .lit (.int .u32 498536548), .lit (.int .u32 997073096), .lit (.int .u32 651767980), .lit (.int .u32 1994146192), .lit (.int .u32 1802195444), .lit (.int .u32 1303535960), .lit (.int .u32 1342533948), .lit (.int .u32 3988292384), .lit (.int .u32 4027552580), .lit (.int .u32 3604390888), .lit (.int .u32 3412177804), .lit (.int .u32 2607071920), .lit (.int .u32 2262029012), .lit (.int .u32 2685067896), .lit (.int .u32 3183342108)]

/-- 'eddylaw04.SealWrites': WHATEVER THE INPUT: true; the input reads as it did. -/
def sealWritesSpec : ChangeSpec := { name := "sealWrites", fn := fun _ => fun
  | [d] => { results := [.lit (.bool true)], args := [d] }
  | _ => none }
def sealWritesRow : OpenClaim := { program := "yteadkfcbgphgnaadoor", sum := "78cf692abfb29d82e1062e6320acae6d88986c7887ab2105c192754f326dabb9", func := "eddy/eddylaw04.SealWrites", spec := "sealWrites", unfollowed := true, recurses := true, named := ["eddy/seal.leaves"], apart := false, laid := [("eddy/seal.leaves", laid_eddy_seal_leaves)] }
def SealWritesSaid : Prop := sealWritesRow.holds Tryd.pinned (OpenSpec.ofChange sealWritesSpec)

/-- ITS FALSE NEIGHBOUR: 'it returns false'. Refute it at one input. -/
def sealWritesWrong : ChangeSpec := { name := "sealWrites", fn := fun _ => fun
  | [d] => { results := [.lit (.bool false)], args := [d] }
  | _ => none }
def SealWritesWrongFalsely : Prop := sealWritesRow.holds Tryd.pinned (OpenSpec.ofChange sealWritesWrong)

/-- 'eddylaw04.SealOpens': WHATEVER THE INPUT: true; the input reads as it did. -/
def sealOpensSpec : ChangeSpec := { name := "sealOpens", fn := fun _ => fun
  | [d1, d2] => { results := [.lit (.bool true)], args := [d1, d2] }
  | _ => none }
def sealOpensRow : OpenClaim := { program := "yteadkfcbgphgnaadoor", sum := "78cf692abfb29d82e1062e6320acae6d88986c7887ab2105c192754f326dabb9", func := "eddy/eddylaw04.SealOpens", spec := "sealOpens", unfollowed := true, recurses := true, named := ["eddy/seal.leaves"], apart := false, laid := [("eddy/seal.leaves", laid_eddy_seal_leaves)] }
def SealOpensSaid : Prop := sealOpensRow.holds Tryd.pinned (OpenSpec.ofChange sealOpensSpec)

/-- ITS FALSE NEIGHBOUR: 'it returns false'. Refute it at one input. -/
def sealOpensWrong : ChangeSpec := { name := "sealOpens", fn := fun _ => fun
  | [d1, d2] => { results := [.lit (.bool false)], args := [d1, d2] }
  | _ => none }
def SealOpensWrongFalsely : Prop := sealOpensRow.holds Tryd.pinned (OpenSpec.ofChange sealOpensWrong)

/-- 'eddylaw04.SealAll': WHATEVER THE INPUT: true; the input reads as it did. -/
def sealAllSpec : ChangeSpec := { name := "sealAll", fn := fun _ => fun
  | [d1, d2] => { results := [.lit (.bool true)], args := [d1, d2] }
  | _ => none }
def sealAllRow : OpenClaim := { program := "yteadkfcbgphgnaadoor", sum := "78cf692abfb29d82e1062e6320acae6d88986c7887ab2105c192754f326dabb9", func := "eddy/eddylaw04.SealAll", spec := "sealAll", unfollowed := true, recurses := true, named := ["eddy/seal.leaves"], apart := false, laid := [("eddy/seal.leaves", laid_eddy_seal_leaves)] }
def SealAllSaid : Prop := sealAllRow.holds Tryd.pinned (OpenSpec.ofChange sealAllSpec)

/-- ITS FALSE NEIGHBOUR: 'it returns false'. Refute it at one input. -/
def sealAllWrong : ChangeSpec := { name := "sealAll", fn := fun _ => fun
  | [d1, d2] => { results := [.lit (.bool false)], args := [d1, d2] }
  | _ => none }
def SealAllWrongFalsely : Prop := sealAllRow.holds Tryd.pinned (OpenSpec.ofChange sealAllWrong)

/-- 'eddylaw04.SealBack': WHATEVER THE INPUT: true; the input reads as it did. -/
def sealBackSpec : ChangeSpec := { name := "sealBack", fn := fun _ => fun
  | [d1, d2, d3] => { results := [.lit (.bool true)], args := [d1, d2, d3] }
  | _ => none }
def sealBackRow : OpenClaim := { program := "yteadkfcbgphgnaadoor", sum := "78cf692abfb29d82e1062e6320acae6d88986c7887ab2105c192754f326dabb9", func := "eddy/eddylaw04.SealBack", spec := "sealBack", unfollowed := true, recurses := true, named := ["eddy/seal.leaves"], apart := false, laid := [("eddy/seal.leaves", laid_eddy_seal_leaves)] }
def SealBackSaid : Prop := sealBackRow.holds Tryd.pinned (OpenSpec.ofChange sealBackSpec)

/-- ITS FALSE NEIGHBOUR: 'it returns false'. Refute it at one input. -/
def sealBackWrong : ChangeSpec := { name := "sealBack", fn := fun _ => fun
  | [d1, d2, d3] => { results := [.lit (.bool false)], args := [d1, d2, d3] }
  | _ => none }
def SealBackWrongFalsely : Prop := sealBackRow.holds Tryd.pinned (OpenSpec.ofChange sealBackWrong)

/-- 'eddylaw04.SealSpoilt': WHATEVER THE INPUT: true; the input reads as it did. -/
def sealSpoiltSpec : ChangeSpec := { name := "sealSpoilt", fn := fun _ => fun
  | [d1, d2, d3] => { results := [.lit (.bool true)], args := [d1, d2, d3] }
  | _ => none }
def sealSpoiltRow : OpenClaim := { program := "yteadkfcbgphgnaadoor", sum := "78cf692abfb29d82e1062e6320acae6d88986c7887ab2105c192754f326dabb9", func := "eddy/eddylaw04.SealSpoilt", spec := "sealSpoilt", unfollowed := true, recurses := true, named := ["eddy/seal.leaves"], apart := false, laid := [("eddy/seal.leaves", laid_eddy_seal_leaves)] }
def SealSpoiltSaid : Prop := sealSpoiltRow.holds Tryd.pinned (OpenSpec.ofChange sealSpoiltSpec)

/-- ITS FALSE NEIGHBOUR: 'it returns false'. Refute it at one input. -/
def sealSpoiltWrong : ChangeSpec := { name := "sealSpoilt", fn := fun _ => fun
  | [d1, d2, d3] => { results := [.lit (.bool false)], args := [d1, d2, d3] }
  | _ => none }
def SealSpoiltWrongFalsely : Prop := sealSpoiltRow.holds Tryd.pinned (OpenSpec.ofChange sealSpoiltWrong)

/-- 'eddylaw04.SealFinds': WHATEVER THE INPUT: true; the input reads as it did. -/
def sealFindsSpec : ChangeSpec := { name := "sealFinds", fn := fun _ => fun
  | [d1, d2] => { results := [.lit (.bool true)], args := [d1, d2] }
  | _ => none }
def sealFindsRow : OpenClaim := { program := "yteadkfcbgphgnaadoor", sum := "78cf692abfb29d82e1062e6320acae6d88986c7887ab2105c192754f326dabb9", func := "eddy/eddylaw04.SealFinds", spec := "sealFinds", unfollowed := true, recurses := true, named := ["eddy/seal.leaves"], apart := false, laid := [("eddy/seal.leaves", laid_eddy_seal_leaves)] }
def SealFindsSaid : Prop := sealFindsRow.holds Tryd.pinned (OpenSpec.ofChange sealFindsSpec)

/-- ITS FALSE NEIGHBOUR: 'it returns false'. Refute it at one input. -/
def sealFindsWrong : ChangeSpec := { name := "sealFinds", fn := fun _ => fun
  | [d1, d2] => { results := [.lit (.bool false)], args := [d1, d2] }
  | _ => none }
def SealFindsWrongFalsely : Prop := sealFindsRow.holds Tryd.pinned (OpenSpec.ofChange sealFindsWrong)

/- THE SECOND FORM. 'bulk': how many values and letters a reading holds, each counted each time it is reached (what is shared counts as often as it is met; a slice's spare places count too). A statement '..UptoSaid' is the law's where the arguments, and the package variables that the reading takes, are together of bulk at most 1048576: NARROWER than '..Said'. Prove '..Said' where nothing that the law and all that it calls make is longer than what came in: it says more and counts as full. Else prove '..UptoSaid'. A law counts once. -/
mutual
def uptoBulk {H : Type} : DataW H → Nat
  | .lit (.string bytes) => bytes.length + 1
  | .lit _ => 1
  | .nil => 1
  | .ptr d => uptoBulk d + 1
  | .slice elems spare => uptoBulkAll elems + uptoBulkAll spare + 1
  | .agg parts => uptoBulkAll parts + 1
  | .iface _ d => uptoBulk d + 1
  | .map entries => uptoBulkEntries entries + 1
  | .held _ => 1
def uptoBulkAll {H : Type} : List (DataW H) → Nat
  | [] => 0
  | d :: r => uptoBulk d + uptoBulkAll r
def uptoBulkEntries {H : Type} : List (Lit × DataW H) → Nat
  | [] => 0
  | x :: r => uptoBulkEntry x + uptoBulkEntries r
def uptoBulkEntry {H : Type} : Lit × DataW H → Nat
  | (.string bytes, d) => bytes.length + uptoBulk d + 1
  | (_, d) => uptoBulk d + 1
 end
def uptoSmall : (H : Type) → List (DataW H) → Bool := fun _ ds => decide (uptoBulkAll ds ≤ 1048576)
def OpenSpec.upto (s : _root_.Go.ChangeSpec) : _root_.Go.OpenSpec := { _root_.Go.OpenSpec.ofChange s with cond := some uptoSmall }

/-- 'eddylaw04.SealWrites', WHERE WHAT IT READS IS OF BULK AT MOST 1048576: true; the input reads as it did. -/
def sealWritesUptoRow : OpenClaim := { program := "yteadkfcbgphgnaadoor", sum := "78cf692abfb29d82e1062e6320acae6d88986c7887ab2105c192754f326dabb9", func := "eddy/eddylaw04.SealWrites", spec := "sealWrites", unfollowed := true, recurses := true, named := ["eddy/seal.leaves"], apart := false, laid := [("eddy/seal.leaves", laid_eddy_seal_leaves)], narrowed := true }
def SealWritesUptoSaid : Prop := sealWritesUptoRow.holds Tryd.pinned (OpenSpec.upto sealWritesSpec)

/-- 'eddylaw04.SealOpens', WHERE WHAT IT READS IS OF BULK AT MOST 1048576: true; the input reads as it did. -/
def sealOpensUptoRow : OpenClaim := { program := "yteadkfcbgphgnaadoor", sum := "78cf692abfb29d82e1062e6320acae6d88986c7887ab2105c192754f326dabb9", func := "eddy/eddylaw04.SealOpens", spec := "sealOpens", unfollowed := true, recurses := true, named := ["eddy/seal.leaves"], apart := false, laid := [("eddy/seal.leaves", laid_eddy_seal_leaves)], narrowed := true }
def SealOpensUptoSaid : Prop := sealOpensUptoRow.holds Tryd.pinned (OpenSpec.upto sealOpensSpec)

/-- 'eddylaw04.SealAll', WHERE WHAT IT READS IS OF BULK AT MOST 1048576: true; the input reads as it did. -/
def sealAllUptoRow : OpenClaim := { program := "yteadkfcbgphgnaadoor", sum := "78cf692abfb29d82e1062e6320acae6d88986c7887ab2105c192754f326dabb9", func := "eddy/eddylaw04.SealAll", spec := "sealAll", unfollowed := true, recurses := true, named := ["eddy/seal.leaves"], apart := false, laid := [("eddy/seal.leaves", laid_eddy_seal_leaves)], narrowed := true }
def SealAllUptoSaid : Prop := sealAllUptoRow.holds Tryd.pinned (OpenSpec.upto sealAllSpec)

/-- 'eddylaw04.SealBack', WHERE WHAT IT READS IS OF BULK AT MOST 1048576: true; the input reads as it did. -/
def sealBackUptoRow : OpenClaim := { program := "yteadkfcbgphgnaadoor", sum := "78cf692abfb29d82e1062e6320acae6d88986c7887ab2105c192754f326dabb9", func := "eddy/eddylaw04.SealBack", spec := "sealBack", unfollowed := true, recurses := true, named := ["eddy/seal.leaves"], apart := false, laid := [("eddy/seal.leaves", laid_eddy_seal_leaves)], narrowed := true }
def SealBackUptoSaid : Prop := sealBackUptoRow.holds Tryd.pinned (OpenSpec.upto sealBackSpec)

/-- 'eddylaw04.SealSpoilt', WHERE WHAT IT READS IS OF BULK AT MOST 1048576: true; the input reads as it did. -/
def sealSpoiltUptoRow : OpenClaim := { program := "yteadkfcbgphgnaadoor", sum := "78cf692abfb29d82e1062e6320acae6d88986c7887ab2105c192754f326dabb9", func := "eddy/eddylaw04.SealSpoilt", spec := "sealSpoilt", unfollowed := true, recurses := true, named := ["eddy/seal.leaves"], apart := false, laid := [("eddy/seal.leaves", laid_eddy_seal_leaves)], narrowed := true }
def SealSpoiltUptoSaid : Prop := sealSpoiltUptoRow.holds Tryd.pinned (OpenSpec.upto sealSpoiltSpec)

/-- 'eddylaw04.SealFinds', WHERE WHAT IT READS IS OF BULK AT MOST 1048576: true; the input reads as it did. -/
def sealFindsUptoRow : OpenClaim := { program := "yteadkfcbgphgnaadoor", sum := "78cf692abfb29d82e1062e6320acae6d88986c7887ab2105c192754f326dabb9", func := "eddy/eddylaw04.SealFinds", spec := "sealFinds", unfollowed := true, recurses := true, named := ["eddy/seal.leaves"], apart := false, laid := [("eddy/seal.leaves", laid_eddy_seal_leaves)], narrowed := true }
def SealFindsUptoSaid : Prop := sealFindsUptoRow.holds Tryd.pinned (OpenSpec.upto sealFindsSpec)

end Rows
end Go.Proofs.YteadkfcbgphgnaaDoor
