/-
  What Head, Maps and Data of layer 6, and the document's, return, for every input: no statement is proved here.
-/
import Derived.Test.YthanenbjfcndbaaGeoC
namespace Go.Proofs.Ythanenbjfcndbaa
open Go.ChangeShapes Go.WideShapes Go.ChangeAt Go.RowKit
set_option linter.unusedVariables false

abbrev Gm.has (s : Gm) (k : Int) : Prop := s.ok ∧ 0 ≤ k ∧ k < s.g
def Gm.herr (s : Gm) (k : Int) : Int := if s.has k then 0 else 2
def Gm.inG (s : Gm) (k j : Int) : Int := if s.has k then 2 + k * s.span + j else 0
abbrev Gm.hasD (s : Gm) (k j : Int) : Prop := s.has k ∧ 0 ≤ j ∧ j < s.d
def Gm.derr (s : Gm) (k j : Int) : Int := if s.hasD k j then 0 else 2
def Gm.data (s : Gm) (k j : Int) : Int := if s.hasD k j then 2 + k * s.span + (2 + s.i + j) else 0
theorem ret_pair {a b c d : Value} (h : a = c) (k : b = d) : Ending.returned (.tuple #[a, b]) = .returned (.tuple #[c, d]) := by rw [h, k]

theorem run_field (a b c : Value) (w : World) : Sem.run Try.prog (Instr.field 36 (.agg #[a, b, c]) 0) w = .ok a w := by
  simp [Instr.field, asAgg, go_sem]
end Go.Proofs.Ythanenbjfcndbaa
