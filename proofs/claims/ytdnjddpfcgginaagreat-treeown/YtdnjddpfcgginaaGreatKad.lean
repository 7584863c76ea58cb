/-
  Texts of my own, joined: no statement is proved here.
-/
import Derived.Lib.Walk
import Derived.Test.YtdnjddpfcgginaaGreatKac
set_option linter.unusedSimpArgs false
set_option linter.unusedVariables false
namespace Go.Proofs.YtdnjddpfcgginaaGreat
open Go.ChangeShapes Go.WideShapes Go.ChangeAt Go.RowKit
theorem BsS.later {w w':World} {s:Sv} {l:List Int} (h:BsS w s l) (k:Below w.heap.size w w'):BsS w' s l:=h.step (E:=fun _=>True) (Stp.of_below k (fun _=>False)) (fun _ _ _=>trivial) (fun _ _=>id)
section
variable {ops : Array Oper} {o : Oper} {a : Act} {w : World} {K : Act → World → Prop} {Q : Exit → Act → World → Prop} {R : Prop}
theorem Z5n (T:TypeId) (ad:Addr) (v:Value) (w':World) (hgd:o.guard=none) (x y:Operand) (ho:o.op= .store T x y) (hx:a.eval x= .pointer (some ad)) (hy:a.eval y=v) (hv:(storeVar T ad v).run Tryz.prog w= .ok () w')
 (h:K (a.put o.dst undef) w'):if Region.wanted o (yielded ops a.tmps)=true then Oper.wp Tryz.prog o a w K Q else R:=by
 have hw:Region.wanted o (yielded ops a.tmps)=true:=by simp [Region.wanted,hgd]
 rw [if_pos hw]
 have hr:(execOp a.eval o).run Tryz.prog w= .ok .skip w':=by
  simp only [execOp,ho,hx,hy,Instr.storeAt,Instr.sureAddr,Sem.run_bind,Sem.run_pure,Result.andThen_ok,hv]
 unfold Oper.wp
 rw [hr];exact h
end
end Go.Proofs.YtdnjddpfcgginaaGreat
