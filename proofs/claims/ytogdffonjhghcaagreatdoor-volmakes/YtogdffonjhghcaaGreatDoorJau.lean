/-
  Texts of my own, joined: no statement is proved here.
-/
import Derived.Test.YtogdffonjhghcaaGreatDoorJag
set_option linter.unusedSimpArgs false
set_option linter.unusedVariables false
namespace Go.Proofs.YtogdffonjhghcaaGreatDoor
open Go.ChangeShapes Go.WideShapes Go.ChangeAt Go.RowKit
set_option maxRecDepth 100000
theorem lenA {T n:Nat} (hT:Arr T n):Tryz.prog.arrayLen T=n:=by unfold Program.arrayLen;rw [hT.und]
theorem Zne {T n:Nat} (hT:Arr T n):Tryz.prog.elem T=5:=by unfold Program.elem;rw [hT.und]
theorem undA {T n:Nat} (hT:Arr T n):Tryz.prog.underlying T=some (.array (Tryz.prog.arrayLen T) (Tryz.prog.elem T)):=by rw [lenA hT,Zne hT];exact hT.und
theorem Zra (w:World):(sizeOf 5).run Tryz.prog w= .ok 1 w:=by kernel_rfl
end Go.Proofs.YtogdffonjhghcaaGreatDoor
