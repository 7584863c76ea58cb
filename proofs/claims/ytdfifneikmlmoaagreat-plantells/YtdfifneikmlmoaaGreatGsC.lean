/-
  What Few and patch of the statements of layer 14 return: no statement is proved here.
-/
import Derived.Test.YtdfifneikmlmoaaGreatGsB
import Derived.Test.YtdfifneikmlmoaaGreatFewA
import Derived.Lib.Walk
namespace Go.Proofs.YtdfifneikmlmoaaGreat
open Go.ChangeShapes Go.WideShapes Go.ChangeAt Go.RowKit
set_option linter.unusedVariables false
set_option linter.unusedSimpArgs false

end Go.Proofs.YtdfifneikmlmoaaGreat
