/-
  What the functions of layer 1 and of its reference that change a bit return, each for every input: no statement is proved here.
-/
import Derived.Test.YtdadajpaobngaaaNumD
namespace Go.Proofs.Ytdadajpaobngaaa
open Go.ChangeShapes Go.WideShapes Go.ChangeAt Go.RowKit
set_option linter.unusedVariables false

end Go.Proofs.Ytdadajpaobngaaa
