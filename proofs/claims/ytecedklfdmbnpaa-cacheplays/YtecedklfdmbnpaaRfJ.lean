/-
  What Load of the code's disk leaves: no statement is proved here.
-/
import Derived.Test.YtecedklfdmbnpaaRfI
namespace Go.Proofs.Ytecedklfdmbnpaa
open Go.ChangeShapes Go.WideShapes Go.ChangeAt Go.RowKit
set_option linter.unusedVariables false

end Go.Proofs.Ytecedklfdmbnpaa
