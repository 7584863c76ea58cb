/-
  What Few and patch of the statements of layer 14 return: no statement is proved here.
-/
import Derived.Test.YtdfifneikmlmoaaGsB
import Derived.Test.YtdfifneikmlmoaaFewA
import Derived.Lib.Walk
namespace Go.Proofs.Ytdfifneikmlmoaa
open Go.ChangeShapes Go.WideShapes Go.ChangeAt Go.RowKit
set_option linter.unusedVariables false
set_option linter.unusedSimpArgs false

end Go.Proofs.Ytdfifneikmlmoaa
