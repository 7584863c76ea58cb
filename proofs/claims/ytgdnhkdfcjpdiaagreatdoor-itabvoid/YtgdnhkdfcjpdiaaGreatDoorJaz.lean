/-
  Texts of my own, joined: no statement is proved here.
-/
import Derived.Test.YtgdnhkdfcjpdiaaGreatDoorJai
set_option linter.unusedSimpArgs false
set_option linter.unusedVariables false
namespace Go.Proofs.YtgdnhkdfcjpdiaaGreatDoor
open Go.ChangeShapes Go.WideShapes Go.ChangeAt Go.RowKit
set_option maxRecDepth 100000
theorem lenA {T n : Nat} (hT : Arr T n) : Tryz.prog.arrayLen T = n := by unfold Program.arrayLen; rw [hT.und]
theorem elemA {T n : Nat} (hT : Arr T n) : Tryz.prog.elem T = 5 := by unfold Program.elem; rw [hT.und]
theorem undA {T n : Nat} (hT : Arr T n) : Tryz.prog.underlying T = some (.array (Tryz.prog.arrayLen T) (Tryz.prog.elem T)) := by rw [lenA hT, elemA hT]; exact hT.und
theorem sizeU8 (w : World) : (sizeOf 5).run Tryz.prog w = .ok 1 w := by kernel_rfl
theorem run_subL {T n : Nat} (hT : Arr T n) (w : World) (g l : Nat) (h3 : l < n) :
    (Instr.sliceAt T (.pointer (some ⟨g, 0, none⟩)) (some (.int .i64 l)) none none).run Tryz.prog w = .ok (.slice (some ⟨g, l, none⟩) (n - l) (n - l)) w := by
  rw [run_sliceAt_array_l w T ⟨g, 0, none⟩ (undA hT) .i64 (l : Int) (by omega) (by rw [lenA hT]; omega), elemA hT, sizeU8, lenA hT]
  simp only [Result.andThen, slicedAt, Int.toNat_natCast]
  rw [if_neg (by omega), Addr.add_mid, Nat.mul_one, Nat.zero_add]
end Go.Proofs.YtgdnhkdfcjpdiaaGreatDoor
