/-
  That the fixed whole of layer 1 works: no statement is proved here.
-/
import Derived.Test.YthanenbjfcndbaaNumG
namespace Go.Proofs.Ythanenbjfcndbaa
open Go.ChangeShapes Go.WideShapes Go.ChangeAt Go.RowKit
set_option linter.unusedVariables false

end Go.Proofs.Ythanenbjfcndbaa
