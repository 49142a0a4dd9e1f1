/-
  Contracts of the program's whole numbers: multiplying.
-/
import Derived.Test.YtgckhkddjckfaagDoorImpl4
namespace Go.Proofs.YtgckhkddjckfaagDoor
set_option maxRecDepth 100000
set_option linter.unusedVariables false
set_option linter.unusedSimpArgs false
open Go.RowKit

end Go.Proofs.YtgckhkddjckfaagDoor
