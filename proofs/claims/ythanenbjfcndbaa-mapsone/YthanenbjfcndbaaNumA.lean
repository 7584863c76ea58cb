/-
  What the small functions of layer 1 and of its reference return, each for every input: no statement is proved here.
-/
import Derived.Test.YthanenbjfcndbaaRows
import Derived.Test.YthanenbjfcndbaaPlain
namespace Go.Proofs.Ythanenbjfcndbaa
open Go.ChangeShapes Go.WideShapes Go.ChangeAt Go.RowKit
set_option linter.unusedVariables false

theorem put16_any (x : Int) (w : World) (h0 : 0 ≤ x) (h1 : x ≤ 65535) :
    Calls Try.prog 26 #[.int .u16 x] w fun e w' => e = .returned (.agg #[.int .u8 (x % 256), .int .u8 (x / 256)]) ∧ Below w.heap.size w w' := by
  go_enter Try.func26, Try.ntmps26
  go_wp2
  go_rounds 3
  go_returns
  exact ⟨rfl, by go_grown⟩

end Go.Proofs.Ythanenbjfcndbaa
