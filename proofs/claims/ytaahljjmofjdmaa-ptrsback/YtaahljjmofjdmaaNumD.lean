/-
  What the functions of layer 1 and of its reference that tell and copy bytes return, each for every input: no statement is proved here.
-/
import Derived.Test.YtaahljjmofjdmaaNumC
import Derived.Laws.AppendOwnNone
namespace Go.Proofs.Ytaahljjmofjdmaa
open Go.ChangeShapes Go.WideShapes Go.ChangeAt Go.RowKit
set_option linter.unusedVariables false

theorem infoU8 : (Try.prog.info? 5).map (fun i => (i.zero, i.size, i.bytes)) = some (some (.int .u8 0), 1, 1) := by kernel_rfl

end Go.Proofs.Ytaahljjmofjdmaa
