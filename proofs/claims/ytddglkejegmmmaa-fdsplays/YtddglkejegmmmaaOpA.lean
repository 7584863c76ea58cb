/-
  An operation that is wanted, by its run; cells that are set: no statement is proved here.
-/
import Derived.Test.YtddglkejegmmmaaRows
import Derived.Test.YtddglkejegmmmaaPlain5
namespace Go.Proofs.Ytddglkejegmmmaa
open Go.ChangeShapes Go.WideShapes Go.ChangeAt Go.RowKit
set_option linter.unusedVariables false

theorem stp_setCells (w : World) (g o : Nat) (vs : List Value) : Stp (fun x => x = g) w (w.setCells g o vs) := Stp.of_setCells w g o vs (.inl rfl)
section
variable {ops : Array Oper} {rest : List Oper} {o : Oper} {a : Act} {w : World} {Q : Exit → Act → World → Prop}
/-- An operation that is wanted, by its run. -/
theorem op_val (hw : Region.wanted o (yielded ops a.tmps) = true) (v : Value) (w' : World) (hr : (execOp a.eval o).run Try.prog w = .ok (.value v) w') (h : wpList Try.prog ops Q rest (a.put o.dst v) w') : wpList Try.prog ops Q (o :: rest) a w := by
  refine wpList_step fun K hK => ?_
  rw [if_pos hw]; unfold Oper.wp; rw [hr]; exact hK _ _ h
theorem op_unit (hw : Region.wanted o (yielded ops a.tmps) = true) (w' : World) (hr : (execOp a.eval o).run Try.prog w = .ok .skip w') (h : wpList Try.prog ops Q rest (a.put o.dst undef) w') : wpList Try.prog ops Q (o :: rest) a w := by
  refine wpList_step fun K hK => ?_
  rw [if_pos hw]; unfold Oper.wp; rw [hr]; exact hK _ _ h
end
end Go.Proofs.Ytddglkejegmmmaa
