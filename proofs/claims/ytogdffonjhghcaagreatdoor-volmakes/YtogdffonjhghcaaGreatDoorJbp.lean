/-
  Texts of my own, joined: no statement is proved here.
-/
import Derived.Great.BuildSlice
import Derived.Test.YtogdffonjhghcaaGreatDoorJaq
import Derived.Test.YtogdffonjhghcaaGreatDoorJbo
set_option linter.unusedSimpArgs false
set_option linter.unusedVariables false
namespace Go.Proofs.YtogdffonjhghcaaGreatDoor
open Go.ChangeShapes Go.WideShapes Go.ChangeAt Go.RowKit
set_option maxRecDepth 100000
def onc (e:Int×Pg):List Value:= .int .i64 e.1::e.2.cs
theorem Z0p (e:Int×Pg):(onc e).length=67:=by unfold onc;simp [e.2.cs_len]
theorem Z40 (e:Int×Pg):∀ v ∈ onc e,v.oneCell'=true:=by
 intro v hv;unfold onc at hv
 rcases List.mem_cons.1 hv with rfl | h
 · rfl
 · exact e.2.cs_one v h
def e0:Int×Pg:=(0,⟨Blk.zero,false,0⟩)
def flN (l:El):List Value:=l.flatMap onc
theorem Z5q (l:El):(flN l).length=l.length * 67:=by
 unfold flN
 induction l with
 | nil=>rfl
 | cons a r ih=>rw [List.flatMap_cons,List.length_append,ih,Z0p,List.length_cons];omega
theorem Zfd:∀ (l:El) (i j:Nat),i < l.length→j < 67→(flN l)[i * 67+j]? =(onc (l.getD i e0))[j]?
 | [],i,j,h,_=>by simp at h
 | a::r,0,j,_,hj=>by
   unfold flN;rw [List.flatMap_cons,List.getElem?_append_left (by rw [Z0p];omega)];simp
 | a::r,i+1,j,h,hj=>by
   have:=Zfd r i j (by simpa using h) hj
   unfold flN at *
   rw [List.flatMap_cons,List.getElem?_append_right (by rw [Z0p];omega),Z0p,show(i+1) * 67+j - 67=i * 67+j by omega,this];simp
theorem Zfc (l r:El):flN (l++r)=flN l++flN r:=by unfold flN;simp
theorem Zlo (l:El):∀ v ∈ flN l,v.oneCell'=true:=by
 intro v hv;unfold flN at hv;obtain⟨b,_,hb⟩:=List.mem_flatMap.1 hv;exact Z40 b v hb
theorem Zif (L:El) (k:Nat):(flN L).take (k * 67)=flN (L.take k):=by
 induction L generalizing k with
 | nil=>simp [flN]
 | cons a r ih=>
   cases k with
   | zero=>simp [flN]
   | succ k=>
     unfold flN at *
     rw [List.flatMap_cons,List.take_succ_cons,List.flatMap_cons,List.take_append,Z0p,List.take_of_length_le (by rw [Z0p];omega),show(k+1) * 67 - 67=k * 67 by omega,ih]
theorem Zie (L:El) (k:Nat):(flN L).drop (k * 67)=flN (L.drop k):=by
 induction L generalizing k with
 | nil=>simp [flN]
 | cons a r ih=>
   cases k with
   | zero=>simp [flN]
   | succ k=>
     unfold flN at *
     rw [List.flatMap_cons,List.drop_succ_cons,List.drop_append,Z0p,List.drop_eq_nil_of_le (by rw [Z0p];omega),show(k+1) * 67 - 67=k * 67 by omega,ih];rfl
theorem Zgn:(Tryz.prog.info? 242).map (fun i=>(i.zero,i.size,i.bytes))=some (some (.agg (onc e0).toArray),67,88):=by kernel_rfl
theorem uOs:Tryz.prog.underlying 233=some (.slice 242):=by kernel_rfl
theorem uO:∃ d,Tryz.prog.underlying 242=some d∧d.isRow=true:=⟨_,Tryz.underlying242,rfl⟩
theorem szO:(Tryz.prog.info? 242).map (·.size)=some 67:=by kernel_rfl
theorem Zsf (w:World):(zeroValue 242).run Tryz.prog w= .ok (.agg (onc e0).toArray) w:=(zero_of_info (v:= .agg (onc e0).toArray) (n:=67) (by kernel_rfl)).1 w
theorem Zrx {w:World} {g o:Nat} {e:Int×Pg} (h:w.rangeAt g o (onc e)):(loadVar 242 ⟨g,o,none⟩).run Tryz.prog w= .ok (.agg (onc e).toArray) w:=by
 obtain⟨d,h1,h2⟩:=uO
 exact run_loadVar_mid w g o _ (onc e) _ h h1 h2 (by rw [szO,Z0p])
theorem Zln (k:Int) (b:Blk) (X:List Value) (hX:X.length=64):Instr.fill ([(0,1),(1,64),(65,1),(66,1)].toArray[·]?) (Value.int .i64 0::X++ [Value.bool false, .int .i64 0]).toArray [(0, .int .i64 k),(1, .agg b.cs.toArray)]=some (onc (k,⟨b,false,0⟩)).toArray:=by
 have hf:=Z8e b.cs 1 0 (Value.int .i64 k::X++ [Value.bool false, .int .i64 0]) (by simp [hX,b.cs_len])
 have hd:(Value.int .i64 k::X++ [Value.bool false, .int .i64 0]).drop (1+0+b.cs.length)= [Value.bool false, .int .i64 0]:=by
  rw [b.cs_len,show 1+0+64=X.length+1 by rw [hX]];simp
 rw [hd]at hf
 simp only [Instr.fill,Value.cells]
 simp [hX,b.cs_len]
 simpa [onc,Pg.cs]using hf
theorem Zgc (k:Int) (b:Blk) (w:World):(Instr.build 242 #[(0, .int .i64 k),(1, .agg b.cs.toArray)]).run Tryz.prog w= .ok (.agg (onc (k,⟨b,false,0⟩)).toArray) w:=by
 refine run_build w _ _ _ ?_
 have h:Tryz.prog.built 242 [(0, .int .i64 k),(1, .agg b.cs.toArray)]=Instr.fill ([(0,1),(1,64),(65,1),(66,1)].toArray[·]?) (Value.int .i64 0::(List.replicate 64 (Value.int .u8 0))++ [Value.bool false, .int .i64 0]).toArray [(0, .int .i64 k),(1, .agg b.cs.toArray)]:=by kernel_rfl
 refine h.trans (Zln k b _ (by simp))
theorem Zgb (e:Int×Pg) (w:World):(Instr.buildSlice 233 1 #[(0, .agg (onc e).toArray)]).run Tryz.prog w= .ok (.slice (some ⟨w.heap.size,0,none⟩) 1 1) (w.alloc (.cells (onc e).toArray 242)):=by
 obtain⟨ie,hie,hz,hs,hb⟩:=info_parts Zgn
 refine run_buildSlice w _ _ 1 _ (onc e).toArray ie _ uOs hie hz (by rw [hs];omega) (by rw [hs];omega) ?_
 rw [hs]
 have:=Great.fill_whole (s:=67) (by omega) [.agg (onc e).toArray] ((Array.range (1 * 67)).map ((Value.agg (onc e0).toArray).cells[· % (Value.agg (onc e0).toArray).cells.size]!)) (by intro v hv;simp at hv;subst hv;simp [Value.cells,Z0p]) (by simp)
 simpa [Value.cells]using this
def OwL (w:World) (v:Value) (l:El):Prop:=w.ownsRow 0 242 67 v l.length (flN l)
structure RwL (w:World) (g cap:Nat) (l:El) (cur:Array Value):Prop where
 at':w.heap[g]? =some (.cells cur 242 (0,0))
 le:l.length≤cap
 cm:cap≤maxLen
 size:cur.size=cap * 67
 take:cur.toList.take (l.length * 67)=flN l
section
variable {w w' : World} {v : Value} {l : El} {F : Nat → Prop}
theorem OwL.nil (w:World):OwL w (.slice none 0 0) []:=⟨rfl, .inl ⟨rfl,rfl⟩⟩
theorem OwL.row (h:OwL w v l):(v= .slice none 0 0∧l= [])∨∃ g cap cur,v= .slice (some ⟨g,0,none⟩) l.length cap∧RwL w g cap l cur:=by
 rcases h.2 with⟨h1,h2⟩ | ⟨g,cap,cur,h1,_,h3,h4,h5,h6,h7⟩
 · exact .inl ⟨h1,List.eq_nil_of_length_eq_zero h2⟩
 · exact .inr ⟨g,cap,cur,h1,h3,h4,h5,h6,h7⟩
theorem OwL.row1 (h:OwL w v l) (hl:l≠ []):∃ g cap cur,v= .slice (some ⟨g,0,none⟩) l.length cap∧RwL w g cap l cur:=by
 rcases h.row with⟨_,e⟩ | h
 · exact absurd e hl
 · exact h
theorem RwL.own {g cap:Nat} {cur:Array Value} (h:RwL w g cap l cur):OwL w (.slice (some ⟨g,0,none⟩) l.length cap) l:=
 ⟨Z5q l, .inr ⟨g,cap,cur,rfl,Nat.zero_le _,h.at',h.le,h.cm,h.size,h.take⟩⟩
theorem RwL.lt {g cap:Nat} {cur:Array Value} (h:RwL w g cap l cur):g < w.heap.size:=(Array.getElem?_eq_some_iff.1 h.at').1
theorem RwL.cells {g cap:Nat} {cur:Array Value} (h:RwL w g cap l cur) (i:Nat) (u:Value) (hu:(flN l)[i]? =some u):w.cell? ⟨g,i,none⟩=some u:=by
 have hi:i < l.length * 67:=by have:=(List.getElem?_eq_some_iff.1 hu).1;rwa [Z5q]at this
 rw [cell_of_row w g i _ _ (0,0) h.at']
 have h1:(cur.toList.take (l.length * 67))[i]? =(flN l)[i]?:=by rw [h.take]
 rw [List.getElem?_take,if_pos hi,hu]at h1
 simpa using h1
theorem RwL.range {g cap:Nat} {cur:Array Value} (h:RwL w g cap l cur) (k:Nat) (hk:k < l.length):w.rangeAt g (k * 67) (onc (l.getD k e0)):=fun j u hu=>by
 have hj:j < 67:=by have:=(List.getElem?_eq_some_iff.1 hu).1;rw [Z0p]at this;exact this
 exact h.cells (k * 67+j) u (by rw [Zfd l k j hk hj];exact hu)
theorem OwL.lt (h:OwL w v l) {r:Nat} (hr:v.ownBlock=some r):r < w.heap.size:=by
 rcases h.row with⟨rfl,_⟩ | ⟨g,cap,cur,rfl,hw⟩
 · cases hr
 · have:g=r:=by simpa [Value.ownBlock]using hr
   rw [← this];exact hw.lt
theorem OwL.step (h:OwL w v l) (k:Stp F w w') (hF:∀ r,v.ownBlock=some r→¬F r):OwL w' v l:=by
 rcases h.row with⟨rfl,rfl⟩ | ⟨g,cap,cur,rfl,hw⟩
 · exact OwL.nil w'
 · exact RwL.own (cur:=cur) ⟨by rw [k.block g hw.lt (hF g rfl)];exact hw.at',hw.le,hw.cm,hw.size,hw.take⟩
theorem OwL.later (h:OwL w v l) (k:Below w.heap.size w w'):OwL w' v l:=h.step (Stp.of_below k (fun _=>False)) (fun _ _=>id)
theorem OwL.one (h:OwL w v l):v.oneCell'=true:=by
 rcases h.row with⟨rfl,_⟩ | ⟨g,cap,cur,rfl,_⟩<;>rfl
theorem OwL.shape (h:OwL w v l):∃ a c,v= .slice a l.length c:=by
 rcases h.row with⟨e,e2⟩ | ⟨g,cap,cur,e,_⟩
 · exact⟨none,0,by rw [e2];exact e⟩
 · exact⟨_,_,e⟩
theorem OwL.base {B:Nat} (h:OwL w v l) (hN:New B v):w.ownsRow B 242 67 v l.length (flN l):=by
 rcases h.2 with⟨e,e2⟩ | ⟨g,cap,cur,e,_,e3⟩
 · exact⟨h.1, .inl ⟨e,e2⟩⟩
 · exact⟨h.1, .inr ⟨g,cap,cur,e,hN g (by rw [e];rfl),e3⟩⟩
end
set_option maxRecDepth 100000
section
variable {ops : Array Oper} {rest : List Oper} {o : Oper} {a : Act} {w : World} {Q : Exit → Act → World → Prop}
theorem Za8 (hw:Region.wanted o (yielded ops a.tmps)=true) (ho:o.op= .alloc 242)
 (h:∀ g w',w.heap.size≤g→g < w'.heap.size→Cs w' g (onc e0)→Below w.heap.size w w'→wpList Tryz.prog ops Q rest (a.put o.dst (.pointer (some ⟨g,0,none⟩))) w'):wpList Tryz.prog ops Q (o::rest) a w:=by
 refine Z1m hw _ _ ?_ (h w.heap.size (w.alloc (.cells (onc e0).toArray 242)) (Nat.le_refl _) (by simp) (Cs.made _ _ _ (Z40 _)) ((Below.refl _ _).alloc (Nat.le_refl _) _))
 have :(Instr.alloc 242 true (.tuple #[])).run Tryz.prog w= .ok (.pointer (some ⟨w.heap.size,0,none⟩)) (w.alloc (.cells (onc e0).toArray 242)):=by
  unfold Instr.alloc;rw [Sem.run_bind,Zsf];rfl
 simp only [execOp,ho,Sem.run_bind,this];rfl
theorem Znq (hw:Region.wanted o (yielded ops a.tmps)=true) (x:Operand) (ho:o.op= .box 242 x) (e:Int×Pg) (hx:a.eval x= .agg (onc e).toArray)
 (h:∀ g w',w.heap.size≤g→g < w'.heap.size→Cs w' g (onc e)→Below w.heap.size w w'→wpList Tryz.prog ops Q rest (a.put o.dst (.pointer (some ⟨g,0,none⟩))) w'):wpList Tryz.prog ops Q (o::rest) a w:=
 Z2n _ hw x ho (onc e) hx (Z40 e) h
theorem Z4i (hw:Region.wanted o (yielded ops a.tmps)=true) (x:Operand) (ho:o.op= .load 242 x) (g off:Nat) (hx:a.eval x= .pointer (some ⟨g,off,none⟩)) (e:Int×Pg) (hR:w.rangeAt g off (onc e))
 (h:wpList Tryz.prog ops Q rest (a.put o.dst (.agg (onc e).toArray)) w):wpList Tryz.prog ops Q (o::rest) a w:=by
 refine Z1m hw _ _ ?_ h
 simp [execOp,ho,hx,Instr.loadAt,Instr.sureAddr,Zrx hR]
theorem Za9 (hw:Region.wanted o (yielded ops a.tmps)=true) (x y:Operand) (ho:o.op= .store 242 x y) (g:Nat) (hx:a.eval x= .pointer (some ⟨g,0,none⟩)) (e:Int×Pg) (hy:a.eval y= .agg (onc e).toArray) (e':Int×Pg) (hR:Cs w g (onc e'))
 (h:∀ w',Cs w' g (onc e)→Stp (fun x=>x=g) w w'→wpList Tryz.prog ops Q rest (a.put o.dst undef) w'):wpList Tryz.prog ops Q (o::rest) a w:=by
 have hc:=hR.setCells 0 (onc e) (by rw [Z0p,Z0p];omega) (Z40 e)
 have e1:(onc e').take 0++onc e++(onc e').drop (0+(onc e).length)=onc e:=by
  rw [List.drop_eq_nil_of_le (by rw [Z0p,Z0p];omega)];simp
 rw [e1]at hc
 refine Z5j hw _ ?_ (h _ hc (Stp.of_setCells w g 0 (onc e) (.inl rfl)))
 simp only [execOp,ho,hx,hy,Instr.storeAt,Instr.sureAddr,Sem.run_bind,Sem.run_pure,Result.andThen_ok]
 rw [run_storeVar_mid w g 0 _ (onc e).toArray (by have:=hR.there;rw [Z0p]at this;rw [List.size_toArray,Z0p];exact this) (by rw [szO,List.size_toArray,Z0p]) (all_oneCell_toArray (Z40 e))]
 simp
theorem Znp (hw:Region.wanted o (yielded ops a.tmps)=true) (x y:Operand) (ho:o.op= .build 242 #[(0,x),(1,y)]) (k:Int) (hx:a.eval x= .int .i64 k) (b:Blk) (hy:a.eval y= .agg b.cs.toArray)
 (h:wpList Tryz.prog ops Q rest (a.put o.dst (.agg (onc (k,⟨b,false,0⟩)).toArray)) w):wpList Tryz.prog ops Q (o::rest) a w:=by
 refine Z1m hw _ _ ?_ h
 simp [execOp,ho,hx,hy,Zgc]
theorem Zhx (hw:Region.wanted o (yielded ops a.tmps)=true) (x:Operand) (ho:o.op= .buildSlice 233 1 #[(0,x)]) (e:Int×Pg) (hx:a.eval x= .agg (onc e).toArray)
 (h:∀ g w',w.heap.size≤g→g < w'.heap.size→Cs w' g (onc e)→OwL w' (.slice (some ⟨g,0,none⟩) 1 1) [e]→Below w.heap.size w w'→wpList Tryz.prog ops Q rest (a.put o.dst (.slice (some ⟨g,0,none⟩) 1 1)) w'):wpList Tryz.prog ops Q (o::rest) a w:=by
 refine Z1m hw _ _ ?_ (h w.heap.size (w.alloc (.cells (onc e).toArray 242)) (Nat.le_refl _) (by simp) (Cs.made _ _ _ (Z40 _)) ?_ ((Below.refl _ _).alloc (Nat.le_refl _) _))
 · simp [execOp,ho,hx,Zgb]
 · exact RwL.own (l:= [e]) (cur:=(onc e).toArray) ⟨heap_alloc_new w _,Nat.le_refl _,by decide,by simp [Z0p],by simp only [flN,List.flatMap_cons,List.flatMap_nil,List.append_nil];exact List.take_of_length_le (by simp [Z0p])⟩
theorem Znn {B:Nat} {v:Value} {l:El} (hgd:o.guard=none) (s x:Operand) (ho:o.op= .call { callee:= .builtin .append,args:=#[s,x],argTypes:=#[233,233]}) (hs:a.eval s=v) (h0:OwL w v l) (hN:New B v)
 (g2:Nat) (e:Int×Pg) (hx:a.eval x= .slice (some ⟨g2,0,none⟩) 1 1) (hr:w.rangeAt g2 0 (onc e)) (hbig:l.length≤1000) (hB:B≤w.heap.size)
 (h:∀ v' w',OwL w' v' (l++ [e])→New B v'→Stp (fun x=>v.ownBlock=some x) w w'→wpList Tryz.prog ops Q rest (a.put o.dst v') w'):wpList Tryz.prog ops Q (o::rest) a w:=by
 obtain⟨i0,hi,hz0,hz1,hz2⟩:=info_parts Zgn
 refine wpList_append_own_at w hgd s x 233 ho B 242 i0 _ 67 88 uOs hi hz0 hz1 hz2 (by simp [Value.cells,Z0p]) (by decide) v l.length (flN l) hs (h0.base hN) ⟨g2,0,none⟩ 1 1 (onc e) hx (by rw [Z0p]) (fun j u hj=>by rw [Addr.add_mid];exact hr j u hj) (Z40 e) (by unfold maxLen;omega) (by omega) hB ?_
 intro v' w' h1 h2 h3 h4
 refine h v' w' ?_ (fun r hr=>?_) (Stp.of_grown h2 (fun x e=> .inl e))
 · have h5:w'.ownsRow 0 242 67 v' (l.length+1) (flN l++onc e):=by
    rcases h1.2 with⟨e,e2⟩ | ⟨g,cap,cur,e,_,e3⟩
    · exact⟨h1.1, .inl ⟨e,e2⟩⟩
    · exact⟨h1.1, .inr ⟨g,cap,cur,e,Nat.zero_le _,e3⟩⟩
   unfold OwL
   rw [Zfc,List.length_append]
   simpa [flN]using h5
 · rcases h4 with e | e
   · exact hN r (by rw [← e];exact hr)
   · rw [hr]at e;injection e with e;omega
end
section
variable {ops : Array Oper} {o : Oper} {a : Act} {w : World} {K : Act → World → Prop} {Q : Exit → Act → World → Prop} {E : Prop}
theorem Zdt (hgd:o.guard=none) (ho:o.op= .buildSlice 233 0 #[])
 (h:∀ g w',w.heap.size≤g→g < w'.heap.size→OwL w' (.slice (some ⟨g,0,none⟩) 0 0) []→Below w.heap.size w w'→K (a.put o.dst (.slice (some ⟨g,0,none⟩) 0 0)) w'):if Region.wanted o (yielded ops a.tmps)=true then Oper.wp Tryz.prog o a w K Q else E:=by
 have hw:Region.wanted o (yielded ops a.tmps)=true:=by simp [Region.wanted,hgd]
 rw [if_pos hw]
 have hb:(Instr.buildSlice 233 0 #[]).run Tryz.prog w= .ok (.slice (some ⟨w.heap.size,0,none⟩) 0 0) (w.alloc (.cells #[] 242)):=by kernel_rfl
 have hr:(execOp a.eval o).run Tryz.prog w= .ok (.value (.slice (some ⟨w.heap.size,0,none⟩) 0 0)) (w.alloc (.cells #[] 242)):=by
  simp [execOp,ho,hb]
 unfold Oper.wp
 rw [hr]
 exact h w.heap.size _ (Nat.le_refl _) (by simp) (RwL.own (l:= []) (cur:=#[]) ⟨heap_alloc_new w _,Nat.le_refl _,by decide,rfl,rfl⟩) ((Below.refl _ _).alloc (Nat.le_refl _) _)
theorem Z5c {B:Nat} {v:Value} {l l2:El} (hgd:o.guard=none) (s x:Operand) (ho:o.op= .call { callee:= .builtin .append,args:=#[s,x],argTypes:=#[233,233]}) (hs:a.eval s=v) (h0:OwL w v l) (hN:New B v) (hv:v≠ .slice none 0 0)
 (ad:Addr) (c:Nat) (hx:a.eval x= .slice (some ad) l2.length c) (hnews:∀ j u,(flN l2)[j]? =some u→w.cell? (ad.add j)=some u) (hbig:l.length+l2.length≤1000) (hB:B≤w.heap.size)
 (h:∀ g' c' w',OwL w' (.slice (some ⟨g',0,none⟩) (l.length+l2.length) c') (l++l2)→B≤g'→Stp (fun x=>v.ownBlock=some x) w w'→K (a.put o.dst (.slice (some ⟨g',0,none⟩) (l.length+l2.length) c')) w'):if Region.wanted o (yielded ops a.tmps)=true then Oper.wp Tryz.prog o a w K Q else E:=by
 have hw:Region.wanted o (yielded ops a.tmps)=true:=by simp [Region.wanted,hgd]
 rw [if_pos hw]
 obtain⟨i0,hi,hz0,hz1,hz2⟩:=info_parts Zgn
 obtain⟨v',w',hr,h1,h2,h3,h4⟩:=run_append_own_at (P:=Tryz.prog) w B 233 o.type 242 i0 _ 67 88 uOs hi hz0 hz1 hz2 (by simp [Value.cells,Z0p]) (by decide) v l.length (flN l) (h0.base hN) ad l2.length c (flN l2) (Z5q l2) hnews (Zlo l2) (by unfold maxLen;omega) (by omega) hB
 obtain⟨g',cap',rfl,_⟩:=Z4v h1 (fun e=>hv (h3.1 e).1)
 unfold Oper.wp execOp
 simp only [ho,resolve,invoke,builtin,Sem.run_bind,Sem.run_pure,Result.andThen_ok,List.map_toArray,List.map_cons,List.map_nil,hs,hx,hr]
 refine h g' cap' w' ?_ ?_ (Stp.of_grown h2 (fun x e=> .inl e))
 · have hle:(l++l2).length=l.length+l2.length:=List.length_append
   unfold OwL
   rw [hle,Zfc]
   rcases h1.2 with⟨e,e2⟩ | ⟨g,cap,cur,e,_,e3⟩
   · exact⟨h1.1, .inl ⟨e,e2⟩⟩
   · exact⟨h1.1, .inr ⟨g,cap,cur,e,Nat.zero_le _,e3⟩⟩
 · have:(Value.slice (some ⟨g',0,none⟩) (l.length+l2.length) cap').ownBlock=some g':=rfl
   rcases h4 with e | e
   · exact hN g' (by rw [← e,this])
   · rw [this]at e;injection e with e;omega
end
structure Rx (w:World) (yc y q:Nat) (Z:CZ) (s:PS) (lv:Value) (E R:Nat→Prop):Prop where
 rd:RD w y q Z.d R
 rw:Rw w q (ref s)
 hp:Z.p=some s
 c:Cs w yc [.pointer (some ⟨y,0,none⟩), .int .i64 Z.n,lv, .int .i64 Z.h, .int .i64 Z.m]
 ow:OwL w lv Z.l
 eg:E yc
 eo:∀ r,lv.ownBlock=some r→E r∧r≠yc
 er:∀ x,E x→¬R x
 eq:¬E q
 nq:¬R q
 lt:∀ x,E x→x < w.heap.size
 qt:q < w.heap.size
def Rl (q:Nat) (E R:Nat→Prop):Nat→Prop:=fun x=>E x∨R x∨x=q
section
variable {w w' : World} {yc y q : Nat} {Z Z' : CZ} {s s' : PS} {lv lv' : Value} {E E' R R' B : Nat → Prop}
theorem Zas {B:Nat→Prop} {w w':World} {q:Nat} {p:RS} (h:Rw w q p) (k:Stp B w w') (hq:¬B q) (hl:q < w.heap.size):Rw w' q p:=
 ⟨k.cell h.c0 hq,k.cell h.c1 hq,k.cell h.c2 hq,by rw [k.frozen (p:=⟨q,0,none⟩) hl hq];exact h.f0,by rw [k.frozen (p:=⟨q,1,none⟩) hl hq];exact h.f1,by rw [k.frozen (p:=⟨q,2,none⟩) hl hq];exact h.f2⟩
theorem Rx.step (H:Rx w yc y q Z s lv E R) (k:Stp B w w') (h1:∀ x,E x→¬B x) (h2:∀ x,R x→¬B x) (h3:¬B q):Rx w' yc y q Z s lv E R:=
 ⟨H.rd.step k h2,Zas H.rw k h3 H.qt,H.hp,H.c.step k (h1 _ H.eg),H.ow.step k (fun r hr=>h1 r (H.eo r hr).1),H.eg,H.eo,H.er,H.eq,H.nq,fun x hx=>Nat.lt_of_lt_of_le (H.lt x hx) k.size,Nat.lt_of_lt_of_le H.qt k.size⟩
theorem Rx.later (H:Rx w yc y q Z s lv E R) (k:Below w.heap.size w w'):Rx w' yc y q Z s lv E R:=H.step (Stp.of_below k (fun _=>False)) (fun _ _=>id) (fun _ _=>id) id
theorem Rx.far (H:Rx w yc y q Z s lv E R) (x:Nat) (hx:w.heap.size≤x):¬Rl q E R x:=fun e=>by
 rcases e with e | e | e
 · have:=H.lt x e;omega
 · have:=H.rd.lt x e;omega
 · have:=H.qt;omega
theorem Rx.cells (H:Rx w yc y q Z s lv E R):w.cell? ⟨yc,0,none⟩=some (.pointer (some ⟨y,0,none⟩))∧w.cell? ⟨yc,1,none⟩=some (.int .i64 Z.n)∧w.cell? ⟨yc,2,none⟩=some lv∧w.cell? ⟨yc,3,none⟩=some (.int .i64 Z.h)∧w.cell? ⟨yc,4,none⟩=some (.int .i64 Z.m):=
 ⟨H.c.cell 0 _ rfl,H.c.cell 1 _ rfl,H.c.cell 2 _ rfl,H.c.cell 3 _ rfl,H.c.cell 4 _ rfl⟩
theorem Rx.own (H:Rx w yc y q Z s lv E R) (k:Stp E w w') (hd:Z'.d=Z.d) (hp:Z'.p=Z.p) (hc:Cs w' yc [.pointer (some ⟨y,0,none⟩), .int .i64 Z'.n,lv', .int .i64 Z'.h, .int .i64 Z'.m]) (ho:OwL w' lv' Z'.l) (hE:Grew E E' w w') (eg:E' yc) (eo:∀ r,lv'.ownBlock=some r→E' r∧r≠yc) (hlt:∀ x,E' x→x < w'.heap.size):Rx w' yc y q Z' s lv' E' R:=by
 refine⟨by rw [hd];exact H.rd.step k (fun x hx e=>H.er x e hx),Zas H.rw k H.eq H.qt,by rw [hp];exact H.hp,hc,ho,eg,eo,fun x hx hR=>?_,fun e=>?_,H.nq,hlt,Nat.lt_of_lt_of_le H.qt k.size⟩
 · rcases hE x hx with e | e
   · exact H.er x e hR
   · have:=H.rd.lt x hR;omega
 · rcases hE q e with e | e
   · exact H.eq e
   · have:=H.qt;omega
theorem Rx.list (H:Rx w yc y q Z s lv E R) (k:Stp (fun x=>lv.ownBlock=some x) w w') (hd:Z'.d=Z.d) (hp:Z'.p=Z.p) (hn:Z'.n=Z.n) (hh:Z'.h=Z.h) (hm:Z'.m=Z.m) (ho:OwL w' lv' Z'.l) (hb:∀ r,lv'.ownBlock=some r→lv.ownBlock=some r∨(w.heap.size≤r∧r < w'.heap.size)):
 ∃ E',Rx (w'.setCell ⟨yc,2,none⟩ lv') yc y q Z' s lv' E' R∧Stp E w (w'.setCell ⟨yc,2,none⟩ lv')∧Grew E E' w (w'.setCell ⟨yc,2,none⟩ lv'):=by
 have s2:Stp (fun x=>x=yc) w' (w'.setCell ⟨yc,2,none⟩ lv'):=(Stp.refl (fun x=>x=yc) w').setCell (p:=⟨yc,2,none⟩) (.inl rfl) _
 have hyc:lv.ownBlock≠some yc:=fun e=>(H.eo yc e).2 rfl
 have c1:=H.c.step k hyc
 have hnew:∀ r,lv'.ownBlock=some r→r≠yc:=fun r hr=>by
  rcases hb r hr with e | e
  · exact(H.eo r e).2
  · have:=H.lt yc H.eg;omega
 have st:Stp E w (w'.setCell ⟨yc,2,none⟩ lv'):=(k.mono (fun x e=> .inl (H.eo x e).1)).next s2 (fun x e=> .inl (e▸H.eg))
 have hg:Grew E (fun x=>E x∨lv'.ownBlock=some x) w (w'.setCell ⟨yc,2,none⟩ lv'):=fun x hx=>by
  rcases hx with hx | hx
  · exact .inl hx
  · rcases hb x hx with e | e
    · exact .inl (H.eo x e).1
    · exact .inr ⟨e.1,Nat.lt_of_lt_of_le e.2 s2.size⟩
 refine⟨_,H.own st hd hp ?_ (ho.step s2 hnew) hg (.inl H.eg) (fun r hr=>⟨.inr hr,hnew r hr⟩) (fun x hx=>?_),st,hg⟩
 · rw [hn,hh,hm];exact c1.set 2 lv' ho.one
 · rcases hg x hx with e | e
   · exact Nat.lt_of_lt_of_le (H.lt x e) st.size
   · exact e.2
theorem Rx.count (H:Rx w yc y q Z s lv E R) (h' m':Int) (k:Stp (fun x=>x=yc) w w') (hc:Cs w' yc [.pointer (some ⟨y,0,none⟩), .int .i64 Z.n,lv, .int .i64 h', .int .i64 m']):Rx w' yc y q { Z with h:=h',m:=m'} s lv E R:=
 H.own (k.mono (fun x e=> .inl (e▸H.eg))) rfl rfl hc (H.ow.step k (fun r hr=>(H.eo r hr).2)) (Grew.refl _ _ _) H.eg H.eo (fun x hx=>Nat.lt_of_lt_of_le (H.lt x hx) k.size)
theorem Rx.hit (H:Rx w yc y q Z s lv E R) (h':Int):Rx (w.setCell ⟨yc,3,none⟩ (.int .i64 h')) yc y q { Z with h:=h'} s lv E R:=
 H.count h' Z.m ((Stp.refl (fun x=>x=yc) w).setCell (p:=⟨yc,3,none⟩) (.inl rfl) _) (H.c.set 3 (.int .i64 h') rfl)
theorem Rx.missed (H:Rx w yc y q Z s lv E R) (m':Int):Rx (w.setCell ⟨yc,4,none⟩ (.int .i64 m')) yc y q { Z with m:=m'} s lv E R:=
 H.count Z.h m' ((Stp.refl (fun x=>x=yc) w).setCell (p:=⟨yc,4,none⟩) (.inl rfl) _) (H.c.set 4 (.int .i64 m') rfl)
end
theorem Zjg {w:World} (y:Nat) (n:Int) (h:n < 1∨64 < n):
 Calls Tryz.prog 104 #[.pointer (some ⟨y,0,none⟩), .int .i64 n] w fun e w'=>e= .returned (.tuple #[.pointer none, .int .i64 2])∧w=w':=by
 by_cases h1:n < 1
 · clear h
   go_enter Tryz.func104,Tryz.ntmps104
   go_wp2
   go_returns
   exact⟨rfl,rfl⟩
 · have h2:64 < n:=by omega
   clear h
   go_enter Tryz.func104,Tryz.ntmps104
   go_wp2
   go_returns
   exact⟨rfl,rfl⟩
theorem Zh1 {w:World} {y q:Nat} {d:DS} {s:PS} {R:Nat→Prop} (hd:RD w y q d R) (hr:Rw w q (ref s)) (hq:¬R q) (hqt:q < w.heap.size) (n:Nat) (h1:1≤n) (h2:n≤64):
 Calls Tryz.prog 104 #[.pointer (some ⟨y,0,none⟩), .int .i64 (n:Int)] w fun e w'=>∃ yc,e= .returned (.tuple #[.pointer (some ⟨yc,0,none⟩), .int .i64 0])∧w.heap.size≤yc∧Rx w' yc y q (CZ.new d (some s) n) s (.slice none 0 0) (fun x=>x=yc) R∧Below w.heap.size w w':=by
 have a1:(1:Int)≤(n:Int):=by omega
 have a2:(n:Int)≤64:=by omega
 go_enter Tryz.func104,Tryz.ntmps104
 go_wp2
 go_returns
 have b2:Below w.heap.size w (w.alloc (.cells #[.pointer (some ⟨y,0,none⟩), .int .i64 (n:Int), .slice none 0 0, .int .i64 0, .int .i64 0] 235)):=(Below.refl _ w).alloc (Nat.le_refl _) _
 refine⟨w.heap.size,rfl,Nat.le_refl _,⟨hd.step (Stp.of_below b2 (fun _=>False)) (fun _ _=>id),Zas hr (Stp.of_below b2 (fun _=>False)) id hqt,rfl,?_,OwL.nil _,rfl,(fun r hr=>by cases hr),fun x hx e=>?_,fun e=>?_,hq,fun x hx=>?_,Nat.lt_of_lt_of_le hqt b2.size⟩,b2⟩
 · exact Cs.made w [.pointer (some ⟨y,0,none⟩), .int .i64 (n:Int), .slice none 0 0, .int .i64 0, .int .i64 0] 235 (by intro v hv;simp at hv;rcases hv with rfl | rfl | rfl | rfl<;>rfl)
 · have:=hd.lt x e;omega
 · omega
 · subst hx;simp
set_option maxRecDepth 100000
def idx:El→Int→Nat
 | [],_=>0
 | e::r,i=>if e.1=i then 0 else idx r i+1
theorem Z8j {l:El} {i:Int} {q:Pg} (h:fndC l i=some q):idx l i < l.length∧l.getD (idx l i) e0=(i,q)∧l.take (idx l i)++l.drop (idx l i+1)=rmv l i:=by
 induction l with
 | nil=>cases h
 | cons a t ih=>
   unfold fndC at h
   unfold idx rmv
   by_cases e:a.1=i
   · rw [if_pos e]at h
     injection h with h
     rw [if_pos e,if_pos e]
     refine⟨by simp,?_,by simp⟩
     rw [← h,← e];rfl
   · rw [if_neg e]at h
     obtain⟨h1,h2,h3⟩:=ih h
     rw [if_neg e,if_neg e]
     refine⟨by simpa using h1,by simpa using h2,?_⟩
     rw [← h3];simp
def pos (l:El) (i:Int):Int:=match fndC l i with
 | none=> -1
 | some _=>(idx l i:Int)
def posF (l:El) (i:Int) (k:Nat):Int:=match fndC (l.drop k) i with
 | none=> -1
 | some _=>((k+idx (l.drop k) i:Nat):Int)
theorem Zje (l:El) (i:Int):posF l i 0=pos l i:=by
 unfold posF pos;simp
theorem Zfa (l:El) (k:Nat) (hk:k < l.length):l.drop k=l.getD k e0::l.drop (k+1):=by
 rw [List.getD_eq_getElem?_getD,List.getElem?_eq_getElem hk,List.drop_eq_getElem_cons hk];rfl
theorem Zmf (l:El) (i:Int) (k:Nat) (hk:k < l.length) (h:(l.getD k e0).1=i):posF l i k=k:=by
 unfold posF
 rw [Zfa l k hk]
 unfold fndC idx
 rw [if_pos h,if_pos h];simp
theorem Zjd (l:El) (i:Int) (k:Nat) (hk:k < l.length) (h:¬(l.getD k e0).1=i):posF l i k=posF l i (k+1):=by
 unfold posF
 rw [Zfa l k hk]
 conv=>lhs;unfold fndC idx
 rw [if_neg h,if_neg h]
 cases fndC (l.drop (k+1)) i with
 | none=>rfl
 | some q=>simp only;omega
theorem Zme (l:El) (i:Int):posF l i l.length= -1:=by
 unfold posF;rw [List.drop_length];rfl
theorem Zj9 {w:World} {g o:Nat} {e:Int×Pg} (h:w.rangeAt g o (onc e)):w.cell? ⟨g,o,none⟩=some (.int .i64 e.1):=by
 have:=h 0 (.int .i64 e.1) rfl;simpa using this
theorem Zja {w:World} {g o:Nat} {e:Int×Pg} (h:w.rangeAt g o (onc e)):w.cell? ⟨g,o+65,none⟩=some (.bool e.2.ch):=h 65 _ (by
 unfold onc Pg.cs
 rw [List.getElem?_cons_succ,List.getElem?_append_right (by rw [e.2.b.cs_len];omega),e.2.b.cs_len];rfl)
theorem Zd4 {w:World} {g o:Nat} {e:Int×Pg} (h:w.rangeAt g o (onc e)):w.cell? ⟨g,o+66,none⟩=some (.int .i64 e.2.pn):=h 66 _ (by
 unfold onc Pg.cs
 rw [List.getElem?_cons_succ,List.getElem?_append_right (by rw [e.2.b.cs_len];omega),e.2.b.cs_len];rfl)
theorem Znh {w:World} {g o:Nat} {e:Int×Pg} (h:w.rangeAt g o (onc e)):w.rangeAt g (o+1) e.2.b.cs:=fun j v hv=>by
 have :=h (1+j) v (by
  unfold onc Pg.cs
  rw [show 1+j=j+1 by omega,List.getElem?_cons_succ,List.getElem?_append_left (List.getElem?_eq_some_iff.1 hv).1];exact hv)
 rwa [← Nat.add_assoc]at this
set_option maxRecDepth 100000 in
theorem Zh3 {w:World} {yc y q:Nat} {Z:CZ} {s:PS} {lv:Value} {E R:Nat→Prop} (H:Rx w yc y q Z s lv E R) (i:Int) (hl:Z.l.length≤64):
 Calls Tryz.prog 235 #[.pointer (some ⟨yc,0,none⟩), .int .i64 i] w fun e w'=>e= .returned (.int .i64 (pos Z.l i))∧w=w':=by
 obtain⟨y0,y1,y2,y3,y4⟩:=H.cells
 obtain⟨a0,c0,rfl⟩:=H.ow.shape
 go_enter Tryz.func235,Tryz.ntmps235
 go_wp2
 go_loop [5] (fun v=>∃ k:Nat,k≤Z.l.length∧v= .int .i64 (k:Int)∧pos Z.l i=posF Z.l i k) (fun v=>Z.l.length - (intOf v).toNat)
 case atStart=>exact⟨0,Nat.zero_le _,rfl,(Zje _ _).symm⟩
 case round=>
  obtain⟨k,hk,rfl,hp⟩:=hrel
  by_cases hlt:k < Z.l.length
  · have hlt':(k:Int) < (Z.l.length:Int):=by omega
    have hne:Z.l≠ []:=by intro e;rw [e]at hlt;simp at hlt
    obtain⟨g0,cap,cur,e1,hw⟩:=H.ow.row1 hne
    obtain⟨p1, -,p2⟩:=Value.slice.inj e1
    subst p1;subst p2;clear e1
    have ck:=Zj9 (hw.range k hlt)
    by_cases he:(Z.l.getD k e0).1=i
    · have hH:Hid (pos Z.l i=(k:Int)):=by show _=_;rw [hp,Zmf _ _ _ hlt he]
      clear hp
      rw [he]at ck
      go_wp2
      go_returns
      exact⟨by rw [hH.out];rfl,rfl⟩
    · have hH:Hid (pos Z.l i=posF Z.l i (k+1)):=by show _=_;rw [hp,Zjd _ _ _ hlt he]
      clear hp
      generalize (Z.l.getD k e0).1=x at *
      go_wp2
      go_round
      case rel=>exact⟨k+1,by omega,by go_num,hH.out⟩
      case measure=>simp [intOf];omega
  · obtain rfl:k=Z.l.length:=by omega
    have hH:Hid (pos Z.l i= -1):=by show _=_;rw [hp,Zme]
    clear hp
    go_wp2
    go_returns
    exact⟨by rw [hH.out];rfl,rfl⟩
def upT (l:El) (kk:Int):Nat→El
 | 0=> []
 | j+1=>if (j:Int)=kk then upT l kk j else upT l kk j++ [l.getD j e0]
theorem Ze0 (l:El):∀ n,n≤l.length→upT l (-1) n=l.take n
 | 0,_=>rfl
 | n+1,h=>by
   unfold upT
   rw [if_neg (by omega),Ze0 l n (by omega),List.take_add_one,List.getD_eq_getElem?_getD,List.getElem?_eq_getElem (by omega)];rfl
theorem Zg1 (l:El) (k:Nat):∀ n,n≤k→n≤l.length→upT l (k:Int) n=l.take n
 | 0,_,_=>rfl
 | n+1,h,h2=>by
   unfold upT
   rw [if_neg (by omega),Zg1 l k n (by omega) (by omega),List.take_add_one,List.getD_eq_getElem?_getD,List.getElem?_eq_getElem (by omega)];rfl
theorem Zdz (l:El) (k:Nat) (hk:k < l.length):∀ n,k < n→n≤l.length→upT l (k:Int) n=l.take k++(l.take n).drop (k+1)
 | 0,h,_=>by omega
 | n+1,h,h2=>by
   unfold upT
   by_cases e:n=k
   · subst e
     rw [if_pos rfl,Zg1 l n n (by omega) (by omega),List.drop_eq_nil_of_le (by rw [List.length_take];omega)];simp
   · rw [if_neg (by omega),Zdz l k hk n (by omega) (by omega),List.append_assoc]
     congr 1
     rw [List.take_add_one,List.drop_append_of_le_length (by rw [List.length_take];omega),List.getD_eq_getElem?_getD,List.getElem?_eq_getElem (by omega)];rfl
theorem Zpw {l:El} {i:Int} {q:Pg} (h:fndC l i=some q):upT l (idx l i:Int) l.length=rmv l i:=by
 obtain⟨h1,h2,h3⟩:=Z8j h
 rw [Zdz l _ h1 _ h1 (Nat.le_refl _),List.take_length,h3]
theorem Zg0 (l:El) (kk:Int):∀ n,(upT l kk n).length≤n
 | 0=>Nat.le_refl _
 | n+1=>by
   unfold upT
   have:=Zg0 l kk n
   split
   · omega
   · rw [List.length_append];simp;omega
set_option maxRecDepth 100000 in
set_option maxHeartbeats 2000000 in
theorem Z9n {w:World} {yc y q:Nat} {Z:CZ} {s:PS} {lv:Value} {E R:Nat→Prop} (H:Rx w yc y q Z s lv E R) (e:Int×Pg) (kk:Int) (hl:Z.l.length≤64):
 Calls Tryz.prog 236 #[.pointer (some ⟨yc,0,none⟩), .agg (onc e).toArray, .int .i64 kk] w fun r w'=>r= .returned (.tuple #[])∧∃ lv' E',Rx w' yc y q { Z with l:=e::upT Z.l kk Z.l.length} s lv' E' R∧Stp E w w'∧Grew E E' w w':=by
 obtain⟨a0,c0,rfl⟩:=H.ow.shape
 go_enter Tryz.func236,Tryz.ntmps236
 go_wp2_with (first
  | (refine Znq (by rfl) _ (by rfl) e (by rfl) ?_;intro gb w1 a1 l1 r1 b1)
  | (refine Z4i (by rfl) _ (by rfl) gb 0 (by rfl) e r1.range ?_)
  | (refine Zhx (by rfl) _ (by rfl) e (by rfl) ?_;intro go w2 a2 l2 r2 o2 b2))
 have B2:Below w.heap.size w w2:=Z01 b1 b2 (Nat.le_refl _)
 have hgo:w.heap.size≤go:=Nat.le_trans b1.size a2
 have start:OwL w2 (.slice (some ⟨go,0,none⟩) 1 1) (e::upT Z.l kk 0):=o2
 clear o2 r2 r1 b1 b2
 go_loopw [6,7] (fun vo vj wr=>∃ j:Nat,j≤Z.l.length∧vj= .int .i64 (j:Int)∧OwL wr vo (e::upT Z.l kk j)∧New w.heap.size vo∧Below w.heap.size w wr) (fun _ vj _=>Z.l.length - (intOf vj).toNat)
 case atStart => exact ⟨0, Nat.zero_le _, rfl, start, (fun r hr => by have:go=r:=by simpa [Value.ownBlock]using hr
                                                                      omega),B2⟩
 case round=>
  clear start
  obtain⟨j,hj,rfl,ho,hN,hb⟩:=hrel
  have H2:=H.later hb
  obtain⟨y0,y1,y2,y3,y4⟩:=H2.cells
  by_cases hlt:j < Z.l.length
  · have hlt':(j:Int) < (Z.l.length:Int):=by omega
    have hne:Z.l≠ []:=by intro e;rw [e]at hlt;simp at hlt
    obtain⟨g0,cap,cur,e1,hw⟩:=H2.ow.row1 hne
    obtain⟨p1, -,p2⟩:=Value.slice.inj e1
    subst p1;subst p2;clear e1
    have hrj:=hw.range j hlt
    have hul:=Zg0 Z.l kk j
    by_cases hk:(j:Int)=kk
    · have hH : Hid (upT Z.l kk (j + 1) = upT Z.l kk j) := by show _=_;conv=>lhs;unfold upT
                                                              rw [if_pos hk]
      go_wp2
      go_roundw
      case rel=>exact⟨j+1,by omega,by go_num,by rw [hH.out];exact ho,hN,hb⟩
      case measure=>simp [intOf];omega
    · have hH : Hid (upT Z.l kk (j + 1) = upT Z.l kk j ++ [Z.l.getD j e0]) := by show _=_;conv=>lhs;unfold upT
                                                                                 rw [if_neg hk]
      generalize Z.l.getD j e0=ej at *
      go_wp2_with (first
       | (refine Z4i (by rfl) _ (by rfl) g0 (j * 67) (by rfl) ej hrj ?_)
       | (refine Zhx (by rfl) _ (by rfl) ej (by rfl) ?_;intro g3 w3 a3 l3 r3 o3 b3
          have ho3:=ho.later b3)
       | (at_builtin;refine Znn rfl _ _ rfl rfl ho3 hN g3 ej rfl r3.range (by simp;omega) (Nat.le_trans hb.size b3.size) ?_;intro v4 w4 o4 n4 s4))
      go_roundw
      case rel=>exact⟨j+1,by omega,by go_num,by rw [hH.out];exact o4,n4,((Stp.of_below (Z01 hb b3 (Nat.le_refl _)) (fun x=>w.heap.size≤x)).next s4 (fun x e=> .inl (hN x e))).below (Nat.le_refl _) (fun _ h=>h)⟩
      case measure=>simp [intOf];omega
  · obtain rfl:j=Z.l.length:=by omega
    have v2:=H2.c.frozen 2
    obtain⟨a7,c7,hu6⟩:=ho.shape
    subst hu6
    go_wp2
    first | go_end0 | refine bodyPost_ret (results_none rfl _ _ _) rfl ?_
    obtain⟨E',H3,s3,g3⟩:=H.list (Z':= { Z with l:=e::upT Z.l kk Z.l.length}) (Stp.of_below hb _) rfl rfl rfl rfl rfl ho (fun r hr=> .inr ⟨hN r hr,ho.lt hr⟩)
    exact⟨rfl,_,E',H3,s3,g3⟩
set_option maxRecDepth 100000
theorem Zr7 {p:PS} {k:Nat} (h:okAt p k) (hk:k≤1000000):(ref p).ok:=by
 unfold okAt at h;unfold RS.ok ref;simp only;split<;>omega
section
variable {w w' : World} {yc y q : Nat} {Z Z' : CZ} {s : PS} {lv : Value} {E R R' : Nat → Prop} {t : Nat}
theorem Rx.disk {d:DS} {s':PS} (H:Rx w yc y q Z s lv E R) (k:Stp (fun x=>R x∨x=q) w w') (hd:RD w' y q d R') (hr:Rw w' q (ref s')) (hR:Grew R R' w w') (p:Option PS) (hp:p=some s'):Rx w' yc y q { Z with d:=d,p:=p} s' lv E R':=by
 have far:∀ x,E x→¬(R x∨x=q):=fun x hx e=>by
  rcases e with e | e
  · exact H.er x hx e
  · exact H.eq (e▸hx)
 refine⟨hd,hr,hp,H.c.step k (far _ H.eg),H.ow.step k (fun r hr=>far r (H.eo r hr).1),H.eg,H.eo,fun x hx e=>?_,H.eq,fun e=>?_,fun x hx=>Nat.lt_of_lt_of_le (H.lt x hx) k.size,Nat.lt_of_lt_of_le H.qt k.size⟩
 · rcases hR x e with e | e
   · exact H.er x hx e
   · have:=H.lt x hx;omega
 · rcases hR q e with e | e
   · exact H.nq e
   · have:=H.qt;omega
theorem Zmp (H:Rx w yc y q Z s lv E R) (ok:Z.ok t) (ht:t≤10000) (i:Int) (b:Blk):
 Calls Tryz.prog 247 #[.pointer (some ⟨y,0,none⟩), .int .i64 i, .agg b.cs.toArray] w fun e w'=>e= .returned (.int .i64 (Z0b Z.d Z.p i))∧∃ s' R',Rx w' yc y q { Z with d:=Z.d.write Z.p i b,p:=useP Z.d Z.p i} s' lv E R'∧Stp (fun x=>R x∨x=q) w w'∧Grew R R' w w':=by
 have hs:=ok.sp s H.hp
 refine(Zen H.rd H.rw H.nq (Zr7 hs (by omega)) i b (by have:=ok.wt i;omega)).mono ?_
 rintro e w' ⟨rfl,R',h1,h2,h3,h4⟩
 rw [Zde hs,← H.hp]
 rw [Zhr hs,← H.hp]at h1
 rw [Zn6 hs]at h2
 exact⟨rfl,_,R',H.disk h3 h1 h2 h4 _ (by rw [H.hp,Zkh]),h3,h4⟩
end
def RTo (yc y q:Nat) (E R:Nat→Prop) (Z':CZ) (w w':World):Prop:=∃ s' lv' E' R',Rx w' yc y q Z' s' lv' E' R'∧Stp (Rl q E R) w w'∧Grew E E' w w'∧Grew R R' w w'
section
variable {w w1 w' : World} {yc y q : Nat} {Z Z' : CZ} {s : PS} {lv : Value} {E R : Nat → Prop}
theorem Rx.here (H:Rx w' yc y q Z s lv E R) (k:Stp (Rl q E R) w w'):RTo yc y q E R Z w w':=⟨s,lv,E,R,H,k,Grew.refl _ _ _,Grew.refl _ _ _⟩
theorem RTo.pre (h:RTo yc y q E R Z' w1 w') (b:Below w.heap.size w w1):RTo yc y q E R Z' w w':=by
 obtain⟨s',lv',E',R',h1,h2,h3,h4⟩:=h
 exact⟨s',lv',E',R',h1,(Stp.of_below b _).trans h2,h3.pre b.size,h4.pre b.size⟩
end
theorem Z8h {l:El} {k:Nat} (hk:k < l.length):l.getD k e0 ∈ l:=by
 rw [List.getD_eq_getElem?_getD,List.getElem?_eq_getElem hk];exact List.getElem_mem _
end Go.Proofs.YtogdffonjhghcaaGreatDoor
