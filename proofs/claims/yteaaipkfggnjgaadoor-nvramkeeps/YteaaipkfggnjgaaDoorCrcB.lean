/-
  What the functions of layer 2 without memory of their own, and its reference, return, each for every input: no statement is proved here.
-/
import Derived.Test.YteaaipkfggnjgaaDoorCrcA
namespace Go.Proofs.YteaaipkfggnjgaaDoor
open Go.ChangeShapes Go.WideShapes Go.ChangeAt Go.RowKit
set_option linter.unusedVariables false

end Go.Proofs.YteaaipkfggnjgaaDoor
