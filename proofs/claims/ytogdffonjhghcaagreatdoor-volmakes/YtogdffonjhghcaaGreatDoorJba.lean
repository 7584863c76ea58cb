/-
  Texts of my own, joined: no statement is proved here.
-/
import Derived.Test.YtogdffonjhghcaaGreatDoorJaz
set_option linter.unusedSimpArgs false
set_option linter.unusedVariables false
namespace Go.Proofs.YtogdffonjhghcaaGreatDoor
open Go.ChangeShapes Go.WideShapes Go.ChangeAt Go.RowKit
set_option maxRecDepth 100000
theorem zSm (w:World):(zeroValue 276).run Tryz.prog w= .ok (.agg #[]) w:=by kernel_rfl
section
variable {w w' : World} {b n : Nat} {S : Int → Bool} {F : Nat → Prop}
theorem MpS.storeM (h:MpS w b S n) (hn:n < maxLen) {k:Int} (hw:wfi k):∃ w',(Instr.mapUpdate 270 (.map (some b)) (.int .i64 k) (.agg #[])).run Tryz.prog w= .ok () w'∧MpS w' b (fun x=>S x||decide (x=k)) (n+1)∧Stp (fun x=>x=b) w w':=by
 obtain⟨D,h1,hR⟩:=h
 obtain⟨w',r1,r2,r3⟩:=h1.store (Maps.int_keyed u3) uSm hn (wfI hw u3) (val:= .agg #[]) (d:= .held (.agg #[])) (ps:= []) rfl
 refine⟨w',r1,⟨_,r2,?_⟩,Z0a r3⟩
 rw [← Zfw];exact hR.put h1.isMap k _
theorem MpS.look (h:MpS w b S n) {k:Int} (hw:wfi k):(Instr.lookup 270 (.map (some b)) (.int .i64 k) true).run Tryz.prog w= .ok (.tuple #[.agg #[], .bool (S k)]) w:=by
 obtain⟨D,h1,hR⟩:=h
 obtain⟨v,ps,hr,h2⟩:=h1.look_ok (Maps.int_keyed u3) uSm (zSm w) (zd:= .held (.agg #[])) (zp:= []) rfl (wfI hw u3)
 rw [hr,hR.has k]
 have e:DataW.held v=D.atKey (keyI k) (.held (.agg #[])):=by injection h2 with h2;injection h2
 have es:(stF S k).isSome=S k:=by unfold stF;cases S k<;>rfl
 rw [es]
 cases ef:stF S k with
 | none=>rw [Maps.atKey_of_not_has (hR.none ef)]at e;injection e with e;rw [e]
 | some u=>
   have hu:u= .agg #[]:=by unfold stF at ef;split at ef<;>simp_all
   rw [hR.some ef,hu]at e;injection e with e;rw [e]
end
section
variable {ops : Array Oper} {rest : List Oper} {o : Oper} {a : Act} {w : World} {Q : Exit → Act → World → Prop}
theorem Zl6 (hw:Region.wanted o (yielded ops a.tmps)=true) (m x y:Operand) (ho:o.op= .mapUpdate 270 m x y) (b n:Nat) (S:Int→Bool) (hm:a.eval m= .map (some b)) (k:Int) (hx:a.eval x= .int .i64 k) (hy:a.eval y= .agg #[]) (hM:MpS w b S n) (hn:n < maxLen) (hk:wfi k)
 (h:∀ w',MpS w' b (fun x=>S x||decide (x=k)) (n+1)→Stp (fun x=>x=b) w w'→wpList Tryz.prog ops Q rest (a.put o.dst undef) w'):wpList Tryz.prog ops Q (o::rest) a w:=by
 obtain⟨w',r1,r2,r3⟩:=hM.storeM hn hk
 refine Z35 hw _ ?_ (h w' r2 r3)
 simp [execOp,ho,hm,hx,hy,r1]
theorem Zl3 (hw:Region.wanted o (yielded ops a.tmps)=true) (m x:Operand) (ho:o.op= .lookup 270 m x true) (b n:Nat) (S:Int→Bool) (hm:a.eval m= .map (some b)) (k:Int) (hx:a.eval x= .int .i64 k) (hM:MpS w b S n) (hk:wfi k)
 (h:wpList Tryz.prog ops Q rest (a.put o.dst (.tuple #[.agg #[], .bool (S k)])) w):wpList Tryz.prog ops Q (o::rest) a w:=by
 refine Z09 hw _ _ ?_ h
 simp [execOp,ho,hm,hx,hM.look hk]
theorem Zph (w:World) (n:Int):(Instr.makeMap 270 (some (.int .i64 n))).run Tryz.prog w= .ok (.map (some w.heap.size)) (w.alloc (.map #[] 0)):=by kernel_rfl
theorem Zq9 (hw:Region.wanted o (yielded ops a.tmps)=true) (x:Operand) (ho:o.op= .makeMap 270 (some x)) (n:Int) (hx:a.eval x= .int .i64 n)
 (h:∀ b w',w.heap.size≤b→MpS w' b (fun _=>false) 0→Below w.heap.size w w'→wpList Tryz.prog ops Q rest (a.put o.dst (.map (some b))) w'):wpList Tryz.prog ops Q (o::rest) a w:=by
 refine Z09 hw _ _ ?_ (h w.heap.size (w.alloc (.map #[] 0)) (Nat.le_refl _) (MpS.made w) ((Below.refl _ _).alloc (Nat.le_refl _) _))
 simp [execOp,ho,hx,Zph]
end
end Go.Proofs.YtogdffonjhghcaaGreatDoor
