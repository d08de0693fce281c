/-
  No cell of these rows narrows 'for every input' (looked for: loops, veiled, ifaces, maps, wideKeys, modest, calm, conditions, laid).
  DERIVED. THE GIVEN ROWS OF THIS SEAT. 5 by the template 'for every input the law returns true; each argument reads behind the call as it read before'; 0 by the template 'total and deterministic' (their statements: YtapelgjnnccfoaaTotals.lean).
  GIVEN WITH THE SEED: the statements are not yours to turn. If you find one false, say at which input.
  Laid BY PROGRAM, IN A SANDBOX (cutbox-rows.mjs): the forced cells as the released guide's own fill.sh prints them over the translation d85b8f1d5beaa49c… (all of the seat's roots in one cut). By AI agents, Wed Nov 11 2026. No macro, syntax, notation, axiom, sorry.
-/
import Derived.Test.YtapelgjnnccfoaaChecked
import GoSem.Claim
import GoSem.ClaimJoined
import GoSem.ClaimMapViews
import Derived.JoinedTies
import Derived.KernelRfl
namespace Go.Proofs.Ytapelgjnnccfoaa
/- THE CELL 'sum', in the pinned program and in every row, IS THE sha256 OF THE DUMP (.gsa) THAT YtapelgjnnccfoaaProg.lean LOADS. Nothing in Lean hashes anything: it is a label: what it is worth is what the hold of that sum in a sandbox is worth. -/
noncomputable def Try.pinned : Pinned := { name := "ytapelgjnnccfoaa", sum := "d85b8f1d5beaa49ce8b0aa490194bbbba30db2db451fe6f78ddb12ea45e974a5", checked := Try.checked }
namespace Rows
def none {H : Type} : Left H := { results := [], args := [] }

/-- 'athanorlaw07.ConvShapes': WHATEVER THE INPUT: true; the input reads as it did. -/
def convShapesSpec : ChangeSpec := { name := "convShapes", fn := fun _ => fun
  | [d1, d2, d3] => { results := [.lit (.bool true)], args := [d1, d2, d3] }
  | _ => none }
def convShapesRow : OpenClaim := { program := "ytapelgjnnccfoaa", sum := "d85b8f1d5beaa49ce8b0aa490194bbbba30db2db451fe6f78ddb12ea45e974a5", func := "athanor/athanorlaw07.ConvShapes", spec := "convShapes", unfollowed := true, recurses := true, apart := false }
def ConvShapesSaid : Prop := convShapesRow.holds Try.pinned (OpenSpec.ofChange convShapesSpec)

/-- ITS FALSE NEIGHBOUR: 'it returns false'. Refute it at one input. -/
def convShapesWrong : ChangeSpec := { name := "convShapes", fn := fun _ => fun
  | [d1, d2, d3] => { results := [.lit (.bool false)], args := [d1, d2, d3] }
  | _ => none }
def ConvShapesWrongFalsely : Prop := convShapesRow.holds Try.pinned (OpenSpec.ofChange convShapesWrong)

/-- 'athanorlaw07.ConvGoes': WHATEVER THE INPUT: true; the input reads as it did. -/
def convGoesSpec : ChangeSpec := { name := "convGoes", fn := fun _ => fun
  | [d] => { results := [.lit (.bool true)], args := [d] }
  | _ => none }
def convGoesRow : OpenClaim := { program := "ytapelgjnnccfoaa", sum := "d85b8f1d5beaa49ce8b0aa490194bbbba30db2db451fe6f78ddb12ea45e974a5", func := "athanor/athanorlaw07.ConvGoes", spec := "convGoes", unfollowed := true, recurses := true, apart := false }
def ConvGoesSaid : Prop := convGoesRow.holds Try.pinned (OpenSpec.ofChange convGoesSpec)

/-- ITS FALSE NEIGHBOUR: 'it returns false'. Refute it at one input. -/
def convGoesWrong : ChangeSpec := { name := "convGoes", fn := fun _ => fun
  | [d] => { results := [.lit (.bool false)], args := [d] }
  | _ => none }
def ConvGoesWrongFalsely : Prop := convGoesRow.holds Try.pinned (OpenSpec.ofChange convGoesWrong)

/-- 'athanorlaw07.ConvBacks': WHATEVER THE INPUT: true; the input reads as it did. -/
def convBacksSpec : ChangeSpec := { name := "convBacks", fn := fun _ => fun
  | [d] => { results := [.lit (.bool true)], args := [d] }
  | _ => none }
def convBacksRow : OpenClaim := { program := "ytapelgjnnccfoaa", sum := "d85b8f1d5beaa49ce8b0aa490194bbbba30db2db451fe6f78ddb12ea45e974a5", func := "athanor/athanorlaw07.ConvBacks", spec := "convBacks", unfollowed := true, recurses := true, apart := false }
def ConvBacksSaid : Prop := convBacksRow.holds Try.pinned (OpenSpec.ofChange convBacksSpec)

/-- ITS FALSE NEIGHBOUR: 'it returns false'. Refute it at one input. -/
def convBacksWrong : ChangeSpec := { name := "convBacks", fn := fun _ => fun
  | [d] => { results := [.lit (.bool false)], args := [d] }
  | _ => none }
def ConvBacksWrongFalsely : Prop := convBacksRow.holds Try.pinned (OpenSpec.ofChange convBacksWrong)

/-- 'athanorlaw07.ConvTouches': WHATEVER THE INPUT: true; the input reads as it did. -/
def convTouchesSpec : ChangeSpec := { name := "convTouches", fn := fun _ => fun
  | [d1, d2, d3] => { results := [.lit (.bool true)], args := [d1, d2, d3] }
  | _ => none }
def convTouchesRow : OpenClaim := { program := "ytapelgjnnccfoaa", sum := "d85b8f1d5beaa49ce8b0aa490194bbbba30db2db451fe6f78ddb12ea45e974a5", func := "athanor/athanorlaw07.ConvTouches", spec := "convTouches", unfollowed := true, recurses := true, apart := false }
def ConvTouchesSaid : Prop := convTouchesRow.holds Try.pinned (OpenSpec.ofChange convTouchesSpec)

/-- ITS FALSE NEIGHBOUR: 'it returns false'. Refute it at one input. -/
def convTouchesWrong : ChangeSpec := { name := "convTouches", fn := fun _ => fun
  | [d1, d2, d3] => { results := [.lit (.bool false)], args := [d1, d2, d3] }
  | _ => none }
def ConvTouchesWrongFalsely : Prop := convTouchesRow.holds Try.pinned (OpenSpec.ofChange convTouchesWrong)

/-- 'athanorlaw07.ConvOnes': WHATEVER THE INPUT: true; the input reads as it did. -/
def convOnesSpec : ChangeSpec := { name := "convOnes", fn := fun _ => fun
  | [d1, d2] => { results := [.lit (.bool true)], args := [d1, d2] }
  | _ => none }
def convOnesRow : OpenClaim := { program := "ytapelgjnnccfoaa", sum := "d85b8f1d5beaa49ce8b0aa490194bbbba30db2db451fe6f78ddb12ea45e974a5", func := "athanor/athanorlaw07.ConvOnes", spec := "convOnes", unfollowed := true, recurses := true, apart := false }
def ConvOnesSaid : Prop := convOnesRow.holds Try.pinned (OpenSpec.ofChange convOnesSpec)

/-- ITS FALSE NEIGHBOUR: 'it returns false'. Refute it at one input. -/
def convOnesWrong : ChangeSpec := { name := "convOnes", fn := fun _ => fun
  | [d1, d2] => { results := [.lit (.bool false)], args := [d1, d2] }
  | _ => none }
def ConvOnesWrongFalsely : Prop := convOnesRow.holds Try.pinned (OpenSpec.ofChange convOnesWrong)

/- THE SECOND FORM. 'bulk': how many values and letters a reading holds, each counted each time it is reached (what is shared counts as often as it is met; a slice's spare places count too). A statement '..UptoSaid' is the law's where the arguments, and the package variables that the reading takes, are together of bulk at most 1048576: NARROWER than '..Said'. Prove '..Said' where nothing that the law and all that it calls make is longer than what came in: it says more and counts as full. Else prove '..UptoSaid'. A law counts once. -/
mutual
def uptoBulk {H : Type} : DataW H → Nat
  | .lit (.string bytes) => bytes.length + 1
  | .lit _ => 1
  | .nil => 1
  | .ptr d => uptoBulk d + 1
  | .slice elems spare => uptoBulkAll elems + uptoBulkAll spare + 1
  | .agg parts => uptoBulkAll parts + 1
  | .iface _ d => uptoBulk d + 1
  | .map entries => uptoBulkEntries entries + 1
  | .held _ => 1
def uptoBulkAll {H : Type} : List (DataW H) → Nat
  | [] => 0
  | d :: r => uptoBulk d + uptoBulkAll r
def uptoBulkEntries {H : Type} : List (Lit × DataW H) → Nat
  | [] => 0
  | x :: r => uptoBulkEntry x + uptoBulkEntries r
def uptoBulkEntry {H : Type} : Lit × DataW H → Nat
  | (.string bytes, d) => bytes.length + uptoBulk d + 1
  | (_, d) => uptoBulk d + 1
 end
def uptoSmall : (H : Type) → List (DataW H) → Bool := fun _ ds => decide (uptoBulkAll ds ≤ 1048576)
def OpenSpec.upto (s : _root_.Go.ChangeSpec) : _root_.Go.OpenSpec := { _root_.Go.OpenSpec.ofChange s with cond := some uptoSmall }

/-- 'athanorlaw07.ConvShapes', WHERE WHAT IT READS IS OF BULK AT MOST 1048576: true; the input reads as it did. -/
def convShapesUptoRow : OpenClaim := { program := "ytapelgjnnccfoaa", sum := "d85b8f1d5beaa49ce8b0aa490194bbbba30db2db451fe6f78ddb12ea45e974a5", func := "athanor/athanorlaw07.ConvShapes", spec := "convShapes", unfollowed := true, recurses := true, apart := false, narrowed := true }
def ConvShapesUptoSaid : Prop := convShapesUptoRow.holds Try.pinned (OpenSpec.upto convShapesSpec)

/-- 'athanorlaw07.ConvGoes', WHERE WHAT IT READS IS OF BULK AT MOST 1048576: true; the input reads as it did. -/
def convGoesUptoRow : OpenClaim := { program := "ytapelgjnnccfoaa", sum := "d85b8f1d5beaa49ce8b0aa490194bbbba30db2db451fe6f78ddb12ea45e974a5", func := "athanor/athanorlaw07.ConvGoes", spec := "convGoes", unfollowed := true, recurses := true, apart := false, narrowed := true }
def ConvGoesUptoSaid : Prop := convGoesUptoRow.holds Try.pinned (OpenSpec.upto convGoesSpec)

/-- 'athanorlaw07.ConvBacks', WHERE WHAT IT READS IS OF BULK AT MOST 1048576: true; the input reads as it did. -/
def convBacksUptoRow : OpenClaim := { program := "ytapelgjnnccfoaa", sum := "d85b8f1d5beaa49ce8b0aa490194bbbba30db2db451fe6f78ddb12ea45e974a5", func := "athanor/athanorlaw07.ConvBacks", spec := "convBacks", unfollowed := true, recurses := true, apart := false, narrowed := true }
def ConvBacksUptoSaid : Prop := convBacksUptoRow.holds Try.pinned (OpenSpec.upto convBacksSpec)

/-- 'athanorlaw07.ConvTouches', WHERE WHAT IT READS IS OF BULK AT MOST 1048576: true; the input reads as it did. -/
def convTouchesUptoRow : OpenClaim := { program := "ytapelgjnnccfoaa", sum := "d85b8f1d5beaa49ce8b0aa490194bbbba30db2db451fe6f78ddb12ea45e974a5", func := "athanor/athanorlaw07.ConvTouches", spec := "convTouches", unfollowed := true, recurses := true, apart := false, narrowed := true }
def ConvTouchesUptoSaid : Prop := convTouchesUptoRow.holds Try.pinned (OpenSpec.upto convTouchesSpec)

/-- 'athanorlaw07.ConvOnes', WHERE WHAT IT READS IS OF BULK AT MOST 1048576: true; the input reads as it did. -/
def convOnesUptoRow : OpenClaim := { program := "ytapelgjnnccfoaa", sum := "d85b8f1d5beaa49ce8b0aa490194bbbba30db2db451fe6f78ddb12ea45e974a5", func := "athanor/athanorlaw07.ConvOnes", spec := "convOnes", unfollowed := true, recurses := true, apart := false, narrowed := true }
def ConvOnesUptoSaid : Prop := convOnesUptoRow.holds Try.pinned (OpenSpec.upto convOnesSpec)

end Rows
end Go.Proofs.Ytapelgjnnccfoaa
