/-
  The chapter's example of layer 4 plays as it says: no statement is proved here.
-/
import Derived.Test.YtecedklfdmbnpaaDskF
namespace Go.Proofs.Ytecedklfdmbnpaa
open Go.ChangeShapes Go.WideShapes Go.ChangeAt Go.RowKit
set_option linter.unusedVariables false

def blkOf (x : UInt8) : Blk := ⟨x :: List.replicate 63 0, by simp⟩
theorem build1 (w : World) : (Instr.build 42 #[(0, .int .u8 1)]).run Try.prog w = .ok (.agg (blkOf 1).cs.toArray) w := by kernel_rfl
theorem build2 (w : World) : (Instr.build 42 #[(0, .int .u8 2)]).run Try.prog w = .ok (.agg (blkOf 2).cs.toArray) w := by kernel_rfl
section
variable {ops : Array Oper} {rest : List Oper} {o : Oper} {a : Act} {w : World} {Q : Exit → Act → World → Prop}
theorem at_build1 (hw : Region.wanted o (yielded ops a.tmps) = true) (ho : o.op = .build 42 #[(0, .const (.int .u8 1))]) (h : wpList Try.prog ops Q rest (a.put o.dst (.agg (blkOf 1).cs.toArray)) w) : wpList Try.prog ops Q (o :: rest) a w := by
  refine wpList_val hw _ _ ?_ h
  simp only [execOp, ho, Sem.run_bind, List.map_toArray, List.map_cons, List.map_nil]; exact congrArg (fun r => Result.andThen r _) (build1 w)
theorem at_build2 (hw : Region.wanted o (yielded ops a.tmps) = true) (ho : o.op = .build 42 #[(0, .const (.int .u8 2))]) (h : wpList Try.prog ops Q rest (a.put o.dst (.agg (blkOf 2).cs.toArray)) w) : wpList Try.prog ops Q (o :: rest) a w := by
  refine wpList_val hw _ _ ?_ h
  simp only [execOp, ho, Sem.run_bind, List.map_toArray, List.map_cons, List.map_nil]; exact congrArg (fun r => Result.andThen r _) (build2 w)
end
theorem ins_one (w : World) (x : Int) (hx : (Lit.int .i64 x).wf = true) : Ins (w.alloc (.cells #[.int .i64 x] 3)) (some ⟨w.heap.size, 0, none⟩) 1 1 [x] :=
  ⟨rfl, Nat.le_refl _, by decide, fun y hy => by simp at hy; subst hy; exact hx, fun _ => ⟨_, _, rfl, fun i hi => by
    have h0 : i = 0 := by omega
    subst h0; simp [go_sem]⟩⟩
theorem useP_none (S : DS) (i : Int) : useP S none i = none := by unfold useP; split <;> rfl
theorem ok_none : oOk none := fun _ h => by cases h

end Go.Proofs.Ytecedklfdmbnpaa
