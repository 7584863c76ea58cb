/-
  What the numbers' functions of layer 1 and of its reference return, each for every input, and that the fixed whole works: no statement is proved here.
-/
import Derived.Test.YthanenbjfcndbaaNumE
namespace Go.Proofs.Ythanenbjfcndbaa
open Go.ChangeShapes Go.WideShapes Go.ChangeAt Go.RowKit
set_option linter.unusedVariables false

end Go.Proofs.Ythanenbjfcndbaa
