/-
  What an act leaves, whatever it is: no statement is proved here.
-/
import Derived.Test.YtecedklfdmbnpaaRfT
namespace Go.Proofs.Ytecedklfdmbnpaa
open Go.ChangeShapes Go.WideShapes Go.ChangeAt Go.RowKit
set_option linter.unusedVariables false

end Go.Proofs.Ytecedklfdmbnpaa
