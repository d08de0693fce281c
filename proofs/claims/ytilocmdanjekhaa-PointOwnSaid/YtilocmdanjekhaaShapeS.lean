/-
  Contracts of package shape: Cut, Place.
-/
import Derived.Test.YtilocmdanjekhaaShapeT
namespace Go.Proofs.Ytilocmdanjekhaa
open Go.RowKit
set_option linter.unusedVariables false
set_option linter.unusedSimpArgs false

end Go.Proofs.Ytilocmdanjekhaa