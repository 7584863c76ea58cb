/-
  What the small functions of layer 1 and of its reference return, each for every input: no statement is proved here.
-/
import Derived.Test.YteaaipkfggnjgaaDoorRows
import Derived.Test.YteaaipkfggnjgaaDoorPlain
namespace Go.Proofs.YteaaipkfggnjgaaDoor
open Go.ChangeShapes Go.WideShapes Go.ChangeAt Go.RowKit
set_option linter.unusedVariables false

theorem put32_any (x : Int) (w : World) (h0 : 0 ≤ x) (h1 : x ≤ 4294967295) :
    Calls Tryd.prog 28 #[.int .u32 x] w fun e w' => e = .returned (.agg #[.int .u8 (x % 256), .int .u8 (x / 256 % 256), .int .u8 (x / 65536 % 256), .int .u8 (x / 16777216)]) ∧ Below w.heap.size w w' := by
  go_enter Tryd.func28, Tryd.ntmps28
  go_wp2
  go_rounds 5
  go_returns
  exact ⟨rfl, by go_grown⟩

end Go.Proofs.YteaaipkfggnjgaaDoor
