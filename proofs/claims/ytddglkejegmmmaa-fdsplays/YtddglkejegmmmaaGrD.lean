/-
  What fits, Clone, own and given of layer 14 do: no statement is proved here.
-/
import Derived.Test.YtddglkejegmmmaaGrC
import Derived.Lib.Walk
namespace Go.Proofs.Ytddglkejegmmmaa
open Go.ChangeShapes Go.WideShapes Go.ChangeAt Go.RowKit
set_option linter.unusedVariables false
set_option linter.unusedSimpArgs false

section
variable {w : World} {g : Nat} {p : Pt} {d n : Sv}
theorem Pt.cells (h : Cs w g (p.cs d n)) : w.cell? ⟨g, 0, none⟩ = some (.int .i64 p.id) ∧ w.cell? ⟨g, 1, none⟩ = some (.int .i64 p.at') ∧ w.cell? ⟨g, 2, none⟩ = some (.int .i64 p.off) ∧ w.cell? ⟨g, 3, none⟩ = some (.slice d.a d.n d.c) ∧ w.cell? ⟨g, 4, none⟩ = some (.int .i64 p.kind) ∧ w.cell? ⟨g, 5, none⟩ = some (.slice n.a n.n n.c) ∧ w.cell? ⟨g, 6, none⟩ = some (.int .i64 p.own) ∧ w.cell? ⟨g, 7, none⟩ = some (.int .i64 p.child) ∧ w.cell? ⟨g, 8, none⟩ = some (.bool p.wr) :=
  ⟨h.cell 0 _ rfl, h.cell 1 _ rfl, h.cell 2 _ rfl, h.cell 3 _ rfl, h.cell 4 _ rfl, h.cell 5 _ rfl, h.cell 6 _ rfl, h.cell 7 _ rfl, h.cell 8 _ rfl⟩
end
end Go.Proofs.Ytddglkejegmmmaa
