/-
  Texts of my own, joined: no statement is proved here.
-/
import Derived.Test.YtdnjddpfcgginaaGreatRows
import Derived.Test.YtdnjddpfcgginaaGreatKaa
set_option linter.unusedSimpArgs false
set_option linter.unusedVariables false
namespace Go.Proofs.YtdnjddpfcgginaaGreat
open Go.ChangeShapes Go.WideShapes Go.ChangeAt Go.RowKit
theorem Z3a (w:World) (g o:Nat) (vs:List Value):Stp (fun x=>x=g) w (w.setCells g o vs):=Stp.of_setCells w g o vs (.inl rfl)
section
variable {ops : Array Oper} {rest : List Oper} {o : Oper} {a : Act} {w : World} {Q : Exit → Act → World → Prop}
theorem Z0z (hw:Region.wanted o (yielded ops a.tmps)=true) (v:Value) (w':World) (hr:(execOp a.eval o).run Tryz.prog w= .ok (.value v) w') (h:wpList Tryz.prog ops Q rest (a.put o.dst v) w'):wpList Tryz.prog ops Q (o::rest) a w:=by
 refine wpList_step fun K hK=>?_
 rw [if_pos hw];unfold Oper.wp;rw [hr];exact hK _ _ h
theorem Z4f (hw:Region.wanted o (yielded ops a.tmps)=true) (w':World) (hr:(execOp a.eval o).run Tryz.prog w= .ok .skip w') (h:wpList Tryz.prog ops Q rest (a.put o.dst undef) w'):wpList Tryz.prog ops Q (o::rest) a w:=by
 refine wpList_step fun K hK=>?_
 rw [if_pos hw];unfold Oper.wp;rw [hr];exact hK _ _ h
end
end Go.Proofs.YtdnjddpfcgginaaGreat
