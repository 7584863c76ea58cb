/-
  What an act leaves that forces: no statement is proved here.
-/
import Derived.Test.YtecedklfdmbnpaaRfO
namespace Go.Proofs.Ytecedklfdmbnpaa
open Go.ChangeShapes Go.WideShapes Go.ChangeAt Go.RowKit
set_option linter.unusedVariables false

end Go.Proofs.Ytecedklfdmbnpaa
