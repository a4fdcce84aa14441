/-
  No cell of these rows narrows 'for every input' (looked for: loops, veiled, ifaces, maps, wideKeys, modest, calm, conditions, laid).
  DERIVED. THE GIVEN ROWS OF THIS SEAT. 4 by the template 'for every input the law returns true; each argument reads behind the call as it read before'; 0 by the template 'total and deterministic' (their statements: YtifkkkfejbgifaaTotals.lean).
  GIVEN WITH THE SEED: the statements are not yours to turn. If you find one false, say at which input.
  Laid BY PROGRAM, IN A SANDBOX (cutbox-rows.mjs): the forced cells as the released guide's own fill.sh prints them over the translation 8b1be1aa33935912… (all of the seat's roots in one cut). By AI agents, Wed Nov 11 2026. No macro, syntax, notation, axiom, sorry.
-/
import Derived.Test.YtifkkkfejbgifaaChecked
import GoSem.Claim
import GoSem.ClaimJoined
import GoSem.ClaimMapViews
import Derived.JoinedTies
import Derived.KernelRfl
namespace Go.Proofs.Ytifkkkfejbgifaa
/- THE CELL 'sum', in the pinned program and in every row, IS THE sha256 OF THE DUMP (.gsa) THAT YtifkkkfejbgifaaProg.lean LOADS. Nothing in Lean hashes anything: it is a label: what it is worth is what the hold of that sum in a sandbox is worth. -/
noncomputable def Try.pinned : Pinned := { name := "ytifkkkfejbgifaa", sum := "8b1be1aa339359126bcf2ba92965f38d1f90d4f97216d07cc29de62f61800ac7", checked := Try.checked }
namespace Rows
def none {H : Type} : Left H := { results := [], args := [] }

/-- 'eddylaw15.MissTells': WHATEVER THE INPUT: true; the input reads as it did. -/
def missTellsSpec : ChangeSpec := { name := "missTells", fn := fun _ => fun
  | [d1, d2] => { results := [.lit (.bool true)], args := [d1, d2] }
  | _ => none }
def missTellsRow : OpenClaim := { program := "ytifkkkfejbgifaa", sum := "8b1be1aa339359126bcf2ba92965f38d1f90d4f97216d07cc29de62f61800ac7", func := "eddy/eddylaw15.MissTells", spec := "missTells", unfollowed := true, recurses := true, apart := false }
def MissTellsSaid : Prop := missTellsRow.holds Try.pinned (OpenSpec.ofChange missTellsSpec)

/-- ITS FALSE NEIGHBOUR: 'it returns false'. Refute it at one input. -/
def missTellsWrong : ChangeSpec := { name := "missTells", fn := fun _ => fun
  | [d1, d2] => { results := [.lit (.bool false)], args := [d1, d2] }
  | _ => none }
def MissTellsWrongFalsely : Prop := missTellsRow.holds Try.pinned (OpenSpec.ofChange missTellsWrong)

/-- 'eddylaw15.MissPlays': WHATEVER THE INPUT: true; the input reads as it did. -/
def missPlaysSpec : ChangeSpec := { name := "missPlays", fn := fun _ => fun
  | [d1, d2, d3] => { results := [.lit (.bool true)], args := [d1, d2, d3] }
  | _ => none }
def missPlaysRow : OpenClaim := { program := "ytifkkkfejbgifaa", sum := "8b1be1aa339359126bcf2ba92965f38d1f90d4f97216d07cc29de62f61800ac7", func := "eddy/eddylaw15.MissPlays", spec := "missPlays", unfollowed := true, recurses := true, apart := false }
def MissPlaysSaid : Prop := missPlaysRow.holds Try.pinned (OpenSpec.ofChange missPlaysSpec)

/-- ITS FALSE NEIGHBOUR: 'it returns false'. Refute it at one input. -/
def missPlaysWrong : ChangeSpec := { name := "missPlays", fn := fun _ => fun
  | [d1, d2, d3] => { results := [.lit (.bool false)], args := [d1, d2, d3] }
  | _ => none }
def MissPlaysWrongFalsely : Prop := missPlaysRow.holds Try.pinned (OpenSpec.ofChange missPlaysWrong)

/-- 'eddylaw15.MissDrops': WHATEVER THE INPUT: true; the input reads as it did. -/
def missDropsSpec : ChangeSpec := { name := "missDrops", fn := fun _ => fun
  | [d1, d2] => { results := [.lit (.bool true)], args := [d1, d2] }
  | _ => none }
def missDropsRow : OpenClaim := { program := "ytifkkkfejbgifaa", sum := "8b1be1aa339359126bcf2ba92965f38d1f90d4f97216d07cc29de62f61800ac7", func := "eddy/eddylaw15.MissDrops", spec := "missDrops", unfollowed := true, recurses := true, apart := false }
def MissDropsSaid : Prop := missDropsRow.holds Try.pinned (OpenSpec.ofChange missDropsSpec)

/-- ITS FALSE NEIGHBOUR: 'it returns false'. Refute it at one input. -/
def missDropsWrong : ChangeSpec := { name := "missDrops", fn := fun _ => fun
  | [d1, d2] => { results := [.lit (.bool false)], args := [d1, d2] }
  | _ => none }
def MissDropsWrongFalsely : Prop := missDropsRow.holds Try.pinned (OpenSpec.ofChange missDropsWrong)

/-- 'eddylaw15.MissLives': WHATEVER THE INPUT: true; the input reads as it did. -/
def missLivesSpec : ChangeSpec := { name := "missLives", fn := fun _ => fun
  | [d1, d2, d3] => { results := [.lit (.bool true)], args := [d1, d2, d3] }
  | _ => none }
def missLivesRow : OpenClaim := { program := "ytifkkkfejbgifaa", sum := "8b1be1aa339359126bcf2ba92965f38d1f90d4f97216d07cc29de62f61800ac7", func := "eddy/eddylaw15.MissLives", spec := "missLives", unfollowed := true, recurses := true, apart := false }
def MissLivesSaid : Prop := missLivesRow.holds Try.pinned (OpenSpec.ofChange missLivesSpec)

/-- ITS FALSE NEIGHBOUR: 'it returns false'. Refute it at one input. -/
def missLivesWrong : ChangeSpec := { name := "missLives", fn := fun _ => fun
  | [d1, d2, d3] => { results := [.lit (.bool false)], args := [d1, d2, d3] }
  | _ => none }
def MissLivesWrongFalsely : Prop := missLivesRow.holds Try.pinned (OpenSpec.ofChange missLivesWrong)

/- THE SECOND FORM. 'bulk': how many values and letters a reading holds, each counted each time it is reached (what is shared counts as often as it is met; a slice's spare places count too). A statement '..UptoSaid' is the law's where the arguments, and the package variables that the reading takes, are together of bulk at most 1048576: NARROWER than '..Said'. Prove '..Said' where nothing that the law and all that it calls make is longer than what came in: it says more and counts as full. Else prove '..UptoSaid'. A law counts once. -/
mutual
def uptoBulk {H : Type} : DataW H → Nat
  | .lit (.string bytes) => bytes.length + 1
  | .lit _ => 1
  | .nil => 1
  | .ptr d => uptoBulk d + 1
  | .slice elems spare => uptoBulkAll elems + uptoBulkAll spare + 1
  | .agg parts => uptoBulkAll parts + 1
  | .iface _ d => uptoBulk d + 1
  | .map entries => uptoBulkEntries entries + 1
  | .held _ => 1
def uptoBulkAll {H : Type} : List (DataW H) → Nat
  | [] => 0
  | d :: r => uptoBulk d + uptoBulkAll r
def uptoBulkEntries {H : Type} : List (Lit × DataW H) → Nat
  | [] => 0
  | x :: r => uptoBulkEntry x + uptoBulkEntries r
def uptoBulkEntry {H : Type} : Lit × DataW H → Nat
  | (.string bytes, d) => bytes.length + uptoBulk d + 1
  | (_, d) => uptoBulk d + 1
 end
def uptoSmall : (H : Type) → List (DataW H) → Bool := fun _ ds => decide (uptoBulkAll ds ≤ 1048576)
def OpenSpec.upto (s : _root_.Go.ChangeSpec) : _root_.Go.OpenSpec := { _root_.Go.OpenSpec.ofChange s with cond := some uptoSmall }

/-- 'eddylaw15.MissTells', WHERE WHAT IT READS IS OF BULK AT MOST 1048576: true; the input reads as it did. -/
def missTellsUptoRow : OpenClaim := { program := "ytifkkkfejbgifaa", sum := "8b1be1aa339359126bcf2ba92965f38d1f90d4f97216d07cc29de62f61800ac7", func := "eddy/eddylaw15.MissTells", spec := "missTells", unfollowed := true, recurses := true, apart := false, narrowed := true }
def MissTellsUptoSaid : Prop := missTellsUptoRow.holds Try.pinned (OpenSpec.upto missTellsSpec)

/-- 'eddylaw15.MissPlays', WHERE WHAT IT READS IS OF BULK AT MOST 1048576: true; the input reads as it did. -/
def missPlaysUptoRow : OpenClaim := { program := "ytifkkkfejbgifaa", sum := "8b1be1aa339359126bcf2ba92965f38d1f90d4f97216d07cc29de62f61800ac7", func := "eddy/eddylaw15.MissPlays", spec := "missPlays", unfollowed := true, recurses := true, apart := false, narrowed := true }
def MissPlaysUptoSaid : Prop := missPlaysUptoRow.holds Try.pinned (OpenSpec.upto missPlaysSpec)

/-- 'eddylaw15.MissDrops', WHERE WHAT IT READS IS OF BULK AT MOST 1048576: true; the input reads as it did. -/
def missDropsUptoRow : OpenClaim := { program := "ytifkkkfejbgifaa", sum := "8b1be1aa339359126bcf2ba92965f38d1f90d4f97216d07cc29de62f61800ac7", func := "eddy/eddylaw15.MissDrops", spec := "missDrops", unfollowed := true, recurses := true, apart := false, narrowed := true }
def MissDropsUptoSaid : Prop := missDropsUptoRow.holds Try.pinned (OpenSpec.upto missDropsSpec)

/-- 'eddylaw15.MissLives', WHERE WHAT IT READS IS OF BULK AT MOST 1048576: true; the input reads as it did. -/
def missLivesUptoRow : OpenClaim := { program := "ytifkkkfejbgifaa", sum := "8b1be1aa339359126bcf2ba92965f38d1f90d4f97216d07cc29de62f61800ac7", func := "eddy/eddylaw15.MissLives", spec := "missLives", unfollowed := true, recurses := true, apart := false, narrowed := true }
def MissLivesUptoSaid : Prop := missLivesUptoRow.holds Try.pinned (OpenSpec.upto missLivesSpec)

end Rows
end Go.Proofs.Ytifkkkfejbgifaa
