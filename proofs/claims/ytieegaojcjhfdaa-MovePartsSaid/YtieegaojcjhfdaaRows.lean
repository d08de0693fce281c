/-
  No cell of these rows narrows 'for every input' (looked for: loops, veiled, ifaces, maps, wideKeys, modest, calm, conditions, laid).
  DERIVED. THE GIVEN ROWS OF THIS SEAT. 5 by the template 'for every input the law returns true; each argument reads behind the call as it read before'; 0 by the template 'total and deterministic' (their statements: YtieegaojcjhfdaaTotals.lean).
  GIVEN WITH THE SEED: the statements are not yours to turn. If you find one false, say at which input.
  Laid BY PROGRAM, IN A SANDBOX (cutbox-rows.mjs): the forced cells as the released guide's own fill.sh prints them over the translation ce9de30ee9da72b0… (all of the seat's roots in one cut). By AI agents, Wed Nov 11 2026. No macro, syntax, notation, axiom, sorry.
-/
import Derived.Test.YtieegaojcjhfdaaChecked
import GoSem.Claim
import GoSem.ClaimJoined
import GoSem.ClaimMapViews
import Derived.JoinedTies
import Derived.KernelRfl
namespace Go.Proofs.Ytieegaojcjhfdaa
/- THE CELL 'sum', in the pinned program and in every row, IS THE sha256 OF THE DUMP (.gsa) THAT YtieegaojcjhfdaaProg.lean LOADS. Nothing in Lean hashes anything: it is a label: what it is worth is what the hold of that sum in a sandbox is worth. -/
noncomputable def Try.pinned : Pinned := { name := "ytieegaojcjhfdaa", sum := "ce9de30ee9da72b0a35ff400290c8994db0c25ac8235d11a21324264872d5af2", checked := Try.checked }
namespace Rows
def none {H : Type} : Left H := { results := [], args := [] }

/-- 'athanorlaw09.MoveJoins': WHATEVER THE INPUT: true; the input reads as it did. -/
def moveJoinsSpec : ChangeSpec := { name := "moveJoins", fn := fun _ => fun
  | [d1, d2] => { results := [.lit (.bool true)], args := [d1, d2] }
  | _ => none }
def moveJoinsRow : OpenClaim := { program := "ytieegaojcjhfdaa", sum := "ce9de30ee9da72b0a35ff400290c8994db0c25ac8235d11a21324264872d5af2", func := "athanor/athanorlaw09.MoveJoins", spec := "moveJoins", unfollowed := true, recurses := true, apart := false }
def MoveJoinsSaid : Prop := moveJoinsRow.holds Try.pinned (OpenSpec.ofChange moveJoinsSpec)

/-- ITS FALSE NEIGHBOUR: 'it returns false'. Refute it at one input. -/
def moveJoinsWrong : ChangeSpec := { name := "moveJoins", fn := fun _ => fun
  | [d1, d2] => { results := [.lit (.bool false)], args := [d1, d2] }
  | _ => none }
def MoveJoinsWrongFalsely : Prop := moveJoinsRow.holds Try.pinned (OpenSpec.ofChange moveJoinsWrong)

/-- 'athanorlaw09.MoveParts': WHATEVER THE INPUT: true; the input reads as it did. -/
def movePartsSpec : ChangeSpec := { name := "moveParts", fn := fun _ => fun
  | [d1, d2, d3] => { results := [.lit (.bool true)], args := [d1, d2, d3] }
  | _ => none }
def movePartsRow : OpenClaim := { program := "ytieegaojcjhfdaa", sum := "ce9de30ee9da72b0a35ff400290c8994db0c25ac8235d11a21324264872d5af2", func := "athanor/athanorlaw09.MoveParts", spec := "moveParts", unfollowed := true, recurses := true, apart := false }
def MovePartsSaid : Prop := movePartsRow.holds Try.pinned (OpenSpec.ofChange movePartsSpec)

/-- ITS FALSE NEIGHBOUR: 'it returns false'. Refute it at one input. -/
def movePartsWrong : ChangeSpec := { name := "moveParts", fn := fun _ => fun
  | [d1, d2, d3] => { results := [.lit (.bool false)], args := [d1, d2, d3] }
  | _ => none }
def MovePartsWrongFalsely : Prop := movePartsRow.holds Try.pinned (OpenSpec.ofChange movePartsWrong)

/-- 'athanorlaw09.MoveCuts': WHATEVER THE INPUT: true; the input reads as it did. -/
def moveCutsSpec : ChangeSpec := { name := "moveCuts", fn := fun _ => fun
  | [d] => { results := [.lit (.bool true)], args := [d] }
  | _ => none }
def moveCutsRow : OpenClaim := { program := "ytieegaojcjhfdaa", sum := "ce9de30ee9da72b0a35ff400290c8994db0c25ac8235d11a21324264872d5af2", func := "athanor/athanorlaw09.MoveCuts", spec := "moveCuts", unfollowed := true, recurses := true, apart := false }
def MoveCutsSaid : Prop := moveCutsRow.holds Try.pinned (OpenSpec.ofChange moveCutsSpec)

/-- ITS FALSE NEIGHBOUR: 'it returns false'. Refute it at one input. -/
def moveCutsWrong : ChangeSpec := { name := "moveCuts", fn := fun _ => fun
  | [d] => { results := [.lit (.bool false)], args := [d] }
  | _ => none }
def MoveCutsWrongFalsely : Prop := moveCutsRow.holds Try.pinned (OpenSpec.ofChange moveCutsWrong)

/-- 'athanorlaw09.MoveTurns': WHATEVER THE INPUT: true; the input reads as it did. -/
def moveTurnsSpec : ChangeSpec := { name := "moveTurns", fn := fun _ => fun
  | [d1, d2, d3] => { results := [.lit (.bool true)], args := [d1, d2, d3] }
  | _ => none }
def moveTurnsRow : OpenClaim := { program := "ytieegaojcjhfdaa", sum := "ce9de30ee9da72b0a35ff400290c8994db0c25ac8235d11a21324264872d5af2", func := "athanor/athanorlaw09.MoveTurns", spec := "moveTurns", unfollowed := true, recurses := true, apart := false }
def MoveTurnsSaid : Prop := moveTurnsRow.holds Try.pinned (OpenSpec.ofChange moveTurnsSpec)

/-- ITS FALSE NEIGHBOUR: 'it returns false'. Refute it at one input. -/
def moveTurnsWrong : ChangeSpec := { name := "moveTurns", fn := fun _ => fun
  | [d1, d2, d3] => { results := [.lit (.bool false)], args := [d1, d2, d3] }
  | _ => none }
def MoveTurnsWrongFalsely : Prop := moveTurnsRow.holds Try.pinned (OpenSpec.ofChange moveTurnsWrong)

/-- 'athanorlaw09.MoveWhole': WHATEVER THE INPUT: true; the input reads as it did. -/
def moveWholeSpec : ChangeSpec := { name := "moveWhole", fn := fun _ => fun
  | [d1, d2, d3] => { results := [.lit (.bool true)], args := [d1, d2, d3] }
  | _ => none }
def moveWholeRow : OpenClaim := { program := "ytieegaojcjhfdaa", sum := "ce9de30ee9da72b0a35ff400290c8994db0c25ac8235d11a21324264872d5af2", func := "athanor/athanorlaw09.MoveWhole", spec := "moveWhole", unfollowed := true, recurses := true, apart := false }
def MoveWholeSaid : Prop := moveWholeRow.holds Try.pinned (OpenSpec.ofChange moveWholeSpec)

/-- ITS FALSE NEIGHBOUR: 'it returns false'. Refute it at one input. -/
def moveWholeWrong : ChangeSpec := { name := "moveWhole", fn := fun _ => fun
  | [d1, d2, d3] => { results := [.lit (.bool false)], args := [d1, d2, d3] }
  | _ => none }
def MoveWholeWrongFalsely : Prop := moveWholeRow.holds Try.pinned (OpenSpec.ofChange moveWholeWrong)

/- THE SECOND FORM. 'bulk': how many values and letters a reading holds, each counted each time it is reached (what is shared counts as often as it is met; a slice's spare places count too). A statement '..UptoSaid' is the law's where the arguments, and the package variables that the reading takes, are together of bulk at most 1048576: NARROWER than '..Said'. Prove '..Said' where nothing that the law and all that it calls make is longer than what came in: it says more and counts as full. Else prove '..UptoSaid'. A law counts once. -/
mutual
def uptoBulk {H : Type} : DataW H → Nat
  | .lit (.string bytes) => bytes.length + 1
  | .lit _ => 1
  | .nil => 1
  | .ptr d => uptoBulk d + 1
  | .slice elems spare => uptoBulkAll elems + uptoBulkAll spare + 1
  | .agg parts => uptoBulkAll parts + 1
  | .iface _ d => uptoBulk d + 1
  | .map entries => uptoBulkEntries entries + 1
  | .held _ => 1
def uptoBulkAll {H : Type} : List (DataW H) → Nat
  | [] => 0
  | d :: r => uptoBulk d + uptoBulkAll r
def uptoBulkEntries {H : Type} : List (Lit × DataW H) → Nat
  | [] => 0
  | x :: r => uptoBulkEntry x + uptoBulkEntries r
def uptoBulkEntry {H : Type} : Lit × DataW H → Nat
  | (.string bytes, d) => bytes.length + uptoBulk d + 1
  | (_, d) => uptoBulk d + 1
 end
def uptoSmall : (H : Type) → List (DataW H) → Bool := fun _ ds => decide (uptoBulkAll ds ≤ 1048576)
def OpenSpec.upto (s : _root_.Go.ChangeSpec) : _root_.Go.OpenSpec := { _root_.Go.OpenSpec.ofChange s with cond := some uptoSmall }

/-- 'athanorlaw09.MoveJoins', WHERE WHAT IT READS IS OF BULK AT MOST 1048576: true; the input reads as it did. -/
def moveJoinsUptoRow : OpenClaim := { program := "ytieegaojcjhfdaa", sum := "ce9de30ee9da72b0a35ff400290c8994db0c25ac8235d11a21324264872d5af2", func := "athanor/athanorlaw09.MoveJoins", spec := "moveJoins", unfollowed := true, recurses := true, apart := false, narrowed := true }
def MoveJoinsUptoSaid : Prop := moveJoinsUptoRow.holds Try.pinned (OpenSpec.upto moveJoinsSpec)

/-- 'athanorlaw09.MoveParts', WHERE WHAT IT READS IS OF BULK AT MOST 1048576: true; the input reads as it did. -/
def movePartsUptoRow : OpenClaim := { program := "ytieegaojcjhfdaa", sum := "ce9de30ee9da72b0a35ff400290c8994db0c25ac8235d11a21324264872d5af2", func := "athanor/athanorlaw09.MoveParts", spec := "moveParts", unfollowed := true, recurses := true, apart := false, narrowed := true }
def MovePartsUptoSaid : Prop := movePartsUptoRow.holds Try.pinned (OpenSpec.upto movePartsSpec)

/-- 'athanorlaw09.MoveCuts', WHERE WHAT IT READS IS OF BULK AT MOST 1048576: true; the input reads as it did. -/
def moveCutsUptoRow : OpenClaim := { program := "ytieegaojcjhfdaa", sum := "ce9de30ee9da72b0a35ff400290c8994db0c25ac8235d11a21324264872d5af2", func := "athanor/athanorlaw09.MoveCuts", spec := "moveCuts", unfollowed := true, recurses := true, apart := false, narrowed := true }
def MoveCutsUptoSaid : Prop := moveCutsUptoRow.holds Try.pinned (OpenSpec.upto moveCutsSpec)

/-- 'athanorlaw09.MoveTurns', WHERE WHAT IT READS IS OF BULK AT MOST 1048576: true; the input reads as it did. -/
def moveTurnsUptoRow : OpenClaim := { program := "ytieegaojcjhfdaa", sum := "ce9de30ee9da72b0a35ff400290c8994db0c25ac8235d11a21324264872d5af2", func := "athanor/athanorlaw09.MoveTurns", spec := "moveTurns", unfollowed := true, recurses := true, apart := false, narrowed := true }
def MoveTurnsUptoSaid : Prop := moveTurnsUptoRow.holds Try.pinned (OpenSpec.upto moveTurnsSpec)

/-- 'athanorlaw09.MoveWhole', WHERE WHAT IT READS IS OF BULK AT MOST 1048576: true; the input reads as it did. -/
def moveWholeUptoRow : OpenClaim := { program := "ytieegaojcjhfdaa", sum := "ce9de30ee9da72b0a35ff400290c8994db0c25ac8235d11a21324264872d5af2", func := "athanor/athanorlaw09.MoveWhole", spec := "moveWhole", unfollowed := true, recurses := true, apart := false, narrowed := true }
def MoveWholeUptoSaid : Prop := moveWholeUptoRow.holds Try.pinned (OpenSpec.upto moveWholeSpec)

end Rows
end Go.Proofs.Ytieegaojcjhfdaa
