/-
  Contracts of package shape: Cut, Place.
-/
import Derived.Test.YtlpecdfiagklpaaShapeT
namespace Go.Proofs.Ytlpecdfiagklpaa
open Go.RowKit
set_option linter.unusedVariables false
set_option linter.unusedSimpArgs false

end Go.Proofs.Ytlpecdfiagklpaa