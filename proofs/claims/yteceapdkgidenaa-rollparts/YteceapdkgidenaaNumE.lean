/-
  What the functions of layer 1 and of its reference that change a bit return, each for every input: no statement is proved here.
-/
import Derived.Test.YteceapdkgidenaaNumD
namespace Go.Proofs.Yteceapdkgidenaa
open Go.ChangeShapes Go.WideShapes Go.ChangeAt Go.RowKit
set_option linter.unusedVariables false

end Go.Proofs.Yteceapdkgidenaa
