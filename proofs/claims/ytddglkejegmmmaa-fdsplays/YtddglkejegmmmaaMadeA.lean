/-
  What a call has made, and loads and stores where anything may have come first: no statement is proved here.
-/
import Derived.Test.YtddglkejegmmmaaGrD
namespace Go.Proofs.Ytddglkejegmmmaa
open Go.ChangeShapes Go.WideShapes Go.ChangeAt Go.RowKit
set_option linter.unusedVariables false
set_option linter.unusedSimpArgs false

theorem BsS.later {w w' : World} {s : Sv} {l : List Int} (h : BsS w s l) (k : Below w.heap.size w w') : BsS w' s l := h.step (E := fun _ => True) (Stp.of_below k (fun _ => False)) (fun _ _ _ => trivial) (fun _ _ => id)
/-- What a call has made. -/
def Made (w w' : World) : Nat → Prop := fun x => w.heap.size ≤ x ∧ x < w'.heap.size
theorem Made.mono {w a b w' : World} (h1 : w.heap.size ≤ a.heap.size) (h2 : b.heap.size ≤ w'.heap.size) : ∀ x, Made a b x → Made w w' x := fun x h => ⟨Nat.le_trans h1 h.1, Nat.lt_of_lt_of_le h.2 h2⟩
section
variable {ops : Array Oper} {o : Oper} {a : Act} {w : World} {K : Act → World → Prop} {Q : Exit → Act → World → Prop} {R : Prop}
/-- In a region that draws, where anything may have come first: a load, and a store. -/
theorem step_ld (T : TypeId) (ad : Addr) (v : Value) (hgd : o.guard = none) (x : Operand) (ho : o.op = .load T x) (hx : a.eval x = .pointer (some ad)) (hv : (loadVar T ad).run Try.prog w = .ok v w)
    (h : K (a.put o.dst v) w) : if Region.wanted o (yielded ops a.tmps) = true then Oper.wp Try.prog o a w K Q else R := by
  have hw : Region.wanted o (yielded ops a.tmps) = true := by simp [Region.wanted, hgd]
  rw [if_pos hw]
  have hr : (execOp a.eval o).run Try.prog w = .ok (.value v) w := by simp [execOp, ho, hx, Instr.loadAt, Instr.sureAddr, hv]
  unfold Oper.wp
  rw [hr]; exact h
theorem step_st (T : TypeId) (ad : Addr) (v : Value) (w' : World) (hgd : o.guard = none) (x y : Operand) (ho : o.op = .store T x y) (hx : a.eval x = .pointer (some ad)) (hy : a.eval y = v) (hv : (storeVar T ad v).run Try.prog w = .ok () w')
    (h : K (a.put o.dst undef) w') : if Region.wanted o (yielded ops a.tmps) = true then Oper.wp Try.prog o a w K Q else R := by
  have hw : Region.wanted o (yielded ops a.tmps) = true := by simp [Region.wanted, hgd]
  rw [if_pos hw]
  have hr : (execOp a.eval o).run Try.prog w = .ok .skip w' := by
    simp only [execOp, ho, hx, hy, Instr.storeAt, Instr.sureAddr, Sem.run_bind, Sem.run_pure, Result.andThen_ok, hv]
  unfold Oper.wp
  rw [hr]; exact h
end
end Go.Proofs.Ytddglkejegmmmaa
