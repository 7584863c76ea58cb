/-
  A slice of one patch in a region that draws: no statement is proved here.
-/
import Derived.Test.YteceapdkgidenaaRoW
namespace Go.Proofs.Yteceapdkgidenaa
open Go.ChangeShapes Go.WideShapes Go.ChangeAt Go.RowKit
set_option linter.unusedVariables false
set_option linter.unusedSimpArgs false

theorem step_bsP {ops : Array Oper} {o : Oper} {a : Act} {w : World} {K : Act → World → Prop} {Q : Exit → Act → World → Prop} {R : Prop} (x : Operand) (hgd : o.guard = none) (ho : o.op = .buildSlice 39 1 #[(0, x)]) (t : Pe) (hx : a.eval x = .agg t.cs.toArray)
    (h : ∀ g w', w.heap.size = g → w' = w.alloc (.cells t.cs.toArray 27) → Below w.heap.size w w' → K (a.put o.dst (.slice (some ⟨g, 0, none⟩) 1 1)) w') : if Region.wanted o (yielded ops a.tmps) = true then Oper.wp Try.prog o a w K Q else R := by
  have hw : Region.wanted o (yielded ops a.tmps) = true := by simp [Region.wanted, hgd]
  rw [if_pos hw]
  have hr : (execOp a.eval o).run Try.prog w = .ok (.value (.slice (some ⟨w.heap.size, 0, none⟩) 1 1)) (w.alloc (.cells t.cs.toArray 27)) := by
    simp [execOp, ho, hx, bslice_p]
  unfold Oper.wp
  rw [hr]
  exact h _ _ rfl rfl ((Below.refl _ _).alloc (Nat.le_refl _) _)
end Go.Proofs.Yteceapdkgidenaa
