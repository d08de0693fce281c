/-
  Contracts of package tensor: Scale, Add, Dot.
-/
import Derived.Test.YtlpecdfiagklpaaOnly
import Derived.Test.YtlpecdfiagklpaaFixS
namespace Go.Proofs.Ytlpecdfiagklpaa
open Go.RowKit
set_option linter.unusedVariables false
set_option linter.unusedSimpArgs false

end Go.Proofs.Ytlpecdfiagklpaa