/-
  Texts of my own, joined: no statement is proved here.
-/
import Derived.Deep.CutBlock
import Derived.Deep.DeepCutAuto
import Derived.Test.YtdnjddpfcgginaaGreatKal
set_option linter.unusedSimpArgs false
set_option linter.unusedVariables false
namespace Go.Proofs.YtdnjddpfcgginaaGreat
open Go.ChangeShapes Go.WideShapes Go.ChangeAt Go.RowKit
set_option maxRecDepth 100000
theorem OwD.bsS {w:World} {s:Sv} {d:List Int} (h:OwD w s.v d) (hb:∀ b ∈ d,0≤b∧b≤255):s.n=d.length∧BsS w s d∧(s.a=none→s.c=0):=by
 obtain⟨s',e,h1,h2,_⟩:=Za7 (B:=0) h hb (fun r _=>Nat.zero_le r)
 obtain⟨a,n,c⟩:=s
 obtain⟨a',n',c'⟩:=s'
 simp only [Sv.v]at e
 injection e with e1 e2 e3
 subst e1;subst e2;subst e3
 exact⟨h1,h2,fun e=>(h2.zero e).2.1⟩
theorem Zdz:∃ i,(Tryz.prog.info? 5)=some i∧i.zero=some (.int .u8 0)∧i.size=1∧i.bytes=1:=by
 obtain⟨i,hi,hz,hs,hb⟩:=info_parts (show(Tryz.prog.info? 5).map (fun i=>(i.zero,i.size,i.bytes))=some (some (.int .u8 0),1,1) by kernel_rfl)
 exact⟨i,hi,hz,hs,hb⟩
theorem uB8:Tryz.prog.underlying 29=some (.slice 5):=by kernel_rfl
def zB (n:Nat):List Int:=List.replicate n 0
section
variable {ops : Array Oper} {rest : List Oper} {o : Oper} {a : Act} {w : World} {Q : Exit → Act → World → Prop}
theorem Zf3 (w:World) (n:Nat) (hn:n≤100000):(Instr.makeSlice 29 (.int .i64 (n:Int)) (.int .i64 (n:Int))).run Tryz.prog w= .ok (.slice (some ⟨w.heap.size,0,none⟩) n n) (w.alloc (.cells ((zB n).map (Value.int .u8)).toArray 5)):=by
 obtain⟨i,hi,hz,hs,hb⟩:=Zdz
 have hr:=run_make (P:=Tryz.prog) w 29 5 i _ uB8 hi hz .i64 .i64 n n (by omega) (Int.le_refl _) (by rw [hb];omega) (by omega)
 simp only [Int.toNat_natCast,hs]at hr
 have e:madeCells (Value.int .u8 0).cells (n * 1)=((zB n).map (Value.int .u8)).toArray:=by
  unfold madeCells zB
  apply Array.ext
  · simp
  · intro j h1 h2
    simp [Value.cells]
    rw [Nat.mod_one];rfl
 rw [e]at hr
 exact hr
theorem Zck (w:World) (n:Nat) (hn:n≤100000):OwD (w.alloc (.cells ((zB n).map (Value.int .u8)).toArray 5)) (.slice (some ⟨w.heap.size,0,none⟩) n n) (zB n):=by
 refine⟨by simp, .inr ⟨w.heap.size,n,((zB n).map (Value.int .u8)).toArray,by simp [zB],Nat.zero_le _,heap_alloc_new w _,by simp [zB],by unfold maxLen;omega,by simp [zB],by simp [zB]⟩⟩
theorem Zep (hw:Region.wanted o (yielded ops a.tmps)=true) (x:Operand) (ho:o.op= .makeSlice 29 x x) (n:Nat) (hx:a.eval x= .int .i64 (n:Int)) (hn:n≤100000)
 (h:∀ g w',w.heap.size≤g→g < w'.heap.size→OwD w' (.slice (some ⟨g,0,none⟩) n n) (zB n)→Below w.heap.size w w'→wpList Tryz.prog ops Q rest (a.put o.dst (.slice (some ⟨g,0,none⟩) n n)) w'):wpList Tryz.prog ops Q (o::rest) a w:=by
 refine Z0z hw _ _ ?_ (h w.heap.size _ (Nat.le_refl _) (by simp) (Zck w n hn) ((Below.refl _ _).alloc (Nat.le_refl _) _))
 simp only [execOp,ho,hx,Sem.run_bind]
 exact congrArg (fun r=>Result.andThen r _) (Zf3 w n hn)
end
def spD (d:List Int) (o:Nat) (l:List Int):List Int:=d.take o++l++d.drop (o+l.length)
theorem Z6s (d:List Int) (o:Nat) (l:List Int) (h:o+l.length≤d.length):(spD d o l).length=d.length:=by unfold spD;simp;omega
theorem Zel {α:Type} (L c:List α) (o n:Nat) (h:o+c.length≤n) (hn:n≤L.length):(L.take o++(c++L.drop (o+c.length))).take n=(L.take n).take o++(c++(L.take n).drop (o+c.length)):=by
 rw [List.take_append,List.take_append,List.take_take,List.take_take,List.drop_take,List.length_take,Nat.min_eq_left (show o≤L.length by omega),Nat.min_eq_right (show o≤n by omega),Nat.min_eq_left (show o≤n by omega),List.take_of_length_le (l:=c) (by omega)]
 congr 3
 omega
theorem Zfx (w:World) (g:Nat) (cs:Array Value):Stp (fun x=>x=g) w (w.setRow g cs):=⟨rfl,rfl,rfl,by simp [World.setRow],fun k hk hn=>setRow_other w g k cs hn⟩
theorem Zcj {w:World} {s:Sv} {d:List Int} (h:OwD w s.v d) {g:Nat} (hg:s.a=some ⟨g,0,none⟩) (tp:TypeId) (dp:Option Addr) (dLen dCap:Nat) (s2:Sv) (l:List Int) (h2:BsS w s2 l) (off:Nat) (c:List Int) (hc:c=l.take (min s2.n dLen)) (hfit:off+c.length≤d.length) (hpos:0 < c.length→dp=some ⟨g,off,none⟩):
 ∃ w',(Builtin.copy_ #[29,29] tp #[.slice dp dLen dCap,s2.v]).run Tryz.prog w= .ok (goInt c.length) w'∧OwD w' s.v (spD d off c)∧Stp (fun x=>x=g) w w':=by
 have hl:=h2.len
 have hcl:c.length=Nat.min s2.n dLen:=by rw [hc,List.length_take];have:=Nat.min_le_left s2.n dLen;show min (min s2.n dLen) l.length=min s2.n dLen;omega
 by_cases h0:c.length=0
 · obtain rfl:c= []:=List.eq_nil_of_length_eq_zero h0
   refine⟨w,?_,by unfold spD;simpa using h,Stp.refl _ _⟩
   exact run_copy_none (P:=Tryz.prog) w 29 29 tp 5 dp s2.a dLen dCap s2.n s2.c uB8 (by kernel_rfl) (by rw [← hcl];rfl)
 · obtain rfl:=hpos (by omega)
   rcases h.2 with⟨e,_⟩ | ⟨g',cap,cur,e,e1,e2,e3,e4,e5,e6⟩
   · simp only [Sv.v]at e;injection e with e _ _;rw [hg]at e;cases e
   · simp only [Sv.v]at e
     injection e with e1' e2' e3'
     rw [hg]at e1';injection e1' with e1';injection e1' with e1' _
     subst e1'
     rw [Nat.mul_one]at e5 e6
     have hcs:c.length≤s2.n:=by rw [hcl];exact Nat.min_le_left _ _
     obtain⟨b,o2,eb,hcell⟩:=h2.cell (show 0 < s2.n by omega)
     have hrun:=run_copy_row (P:=Tryz.prog) w 29 29 tp 5 g off dLen dCap ⟨b,o2,none⟩ s2.n s2.c cur 5 (c.map (Value.int .u8)) uB8 (by kernel_rfl) e2
      (by rw [List.length_map];exact hcl) (fun j v hv=>by
        have hj:=(List.getElem?_eq_some_iff.1 hv).1
        rw [List.length_map]at hj
        have hjn:j < s2.n:=by omega
        rw [Addr.add_mid,hcell j hjn,← hv,List.getElem?_map,List.getElem?_eq_getElem hj,List.getD_eq_getElem?_getD,List.getElem?_eq_getElem (by omega)]
        simp only [hc,List.getElem_take];rfl) (by rw [List.length_map];omega) (Zfz c)
     refine⟨_,by show(Builtin.copy_ _ tp #[_,Value.slice s2.a s2.n s2.c]).run _ _=_;rw [eb];rw [List.length_map]at hrun;exact hrun,?_,Zfx _ _ _⟩
     have hlen:=Z6s d off c hfit
     refine⟨by simp, .inr ⟨g,cap,(cur.toList.take off++c.map (Value.int .u8)++cur.toList.drop (off+c.length)).toArray,?_,Nat.zero_le _,setRow_heap w g _ _ _ _ e2,by rw [hlen];exact e3,e4,?_,?_⟩⟩
     · show Value.slice s.a s.n s.c=_;rw [hg,hlen,e2',e3']
     · simp;omega
     · rw [hlen,Nat.mul_one,List.append_assoc]
       have hsz:d.length≤cur.toList.length:=by have:cur.toList.length=cap:=e5;omega
       have:=Zel cur.toList (c.map (Value.int .u8)) off d.length (by rw [List.length_map];omega) hsz
       rw [List.length_map]at this
       show List.take d.length (cur.toList.take off++(c.map (Value.int .u8)++cur.toList.drop (off+c.length)))=_
       rw [this,e6]
       unfold spD
       simp [List.map_take,List.map_drop]
section
variable {ops : Array Oper} {rest : List Oper} {o : Oper} {a : Act} {w : World} {Q : Exit → Act → World → Prop}
theorem Z7g (hw:Region.wanted o (yielded ops a.tmps)=true) (x y:Operand) (ho:o.op= .call { callee:= .builtin .copy,args:=#[x,y],argTypes:=#[29,29]}) {s:Sv} {d:List Int} (h:OwD w s.v d) {g:Nat} (hg:s.a=some ⟨g,0,none⟩) (dp:Option Addr) (dLen dCap:Nat) (hx:a.eval x= .slice dp dLen dCap) (s2:Sv) (hy:a.eval y=s2.v) (l:List Int) (h2:BsS w s2 l) (off:Nat) (c:List Int) (hc:c=l.take (min s2.n dLen)) (hfit:off+c.length≤d.length) (hpos:0 < c.length→dp=some ⟨g,off,none⟩)
 (hK:∀ w',OwD w' s.v (spD d off c)→Stp (fun x=>x=g) w w'→wpList Tryz.prog ops Q rest (a.put o.dst (goInt c.length)) w'):wpList Tryz.prog ops Q (o::rest) a w:=by
 obtain⟨w',hr,r1,r2⟩:=Zcj h hg o.type dp dLen dCap s2 l h2 off c hc hfit hpos
 refine Z0z hw _ w' ?_ (hK w' r1 r2)
 simp only [Sv.v]at hr hy
 simp [execOp,ho,resolve,invoke,builtin,hx,hy,hr,Result.andThen]
end
theorem Zex (d:List Int) (N:Nat):spD (zB N) 0 (d.take (min d.length N))=ctB' d N:=by
 unfold spD zB ctB'
 simp only [List.take_zero,List.nil_append,Nat.zero_add,List.length_take,List.drop_replicate]
 rw [show N - min (min d.length N) d.length=N - d.length by omega]
 congr 1
 by_cases h:d.length≤N
 · rw [Nat.min_eq_left h,List.take_of_length_le (Nat.le_refl _),List.take_of_length_le h]
 · rw [Nat.min_eq_right (by omega)]
theorem Z4z {w:World} {U:Nat→Prop} {g B m n:Nat} {q:Int→Nat} {Z:Tz} {x:Int→Int} (h:Tx w U g q B Z) (hz:Z.okD m n x) {i:Int} (hk:(Z.nd i).k≠0) (N:Nat) (hN:N≤48640):
 Calls Tryz.prog 98 #[.pointer (some ⟨q i,0,none⟩), .int .i64 (N:Int)] w fun e w'=>e= .returned (.tuple #[])∧TxG U g q B (Z.dat i (ctB' (Z.nd i).d N)) w w':=by
 obtain⟨tg,mb,ob,nb,sv,H,hU⟩:=h
 have hil:=hz.live hk
 have hb:=hz.db i
 have a0:(0:Int)≤(N:Int):=by omega
 have n2:=H.n2 hk
 have f2:=(H.nd i hk).2.frozen 2
 have t0:Hid True:=trivial
 go_enter Tryz.func98,Tryz.ntmps98
 go_wp2_with (first
  | (refine Zep (by rfl) _ (by rfl) N (by rfl) (by omega) ?_;intro gd w1 z1 z2 o1 b1
     have H1:=H.later b1
     have c2:=H1.n2 hk
     have g2:=(H1.nd i hk).2.frozen 2
     obtain⟨e1,s1,_⟩:=OwD.bsS (H1.dt i hk).1 hb)
  | (clear t0;refine Z7g (s:=⟨some ⟨gd,0,none⟩,N,N⟩) (by rfl) _ _ (by rfl) o1 rfl (some ⟨gd,0,none⟩) N N (by rfl) (sv i) (by rfl) _ s1 0 ((Z.nd i).d.take (min (sv i).n N)) rfl (by simp [zB];omega) (fun _=>rfl) ?_
     intro w2 o2 s2
     have gq:q i≠gd:=fun e=>by have:=H.low (q i) (by have:=(H.nd i hk).1;omega);omega
     have tl:∀ y,tg y≠0→¬y=gd:=fun y hy e=>by have:=H.low y hy;omega
     have H2:=H1.step s2 tl
     have d2:=H2.n2 hk
     have k2:=(H2.nd i hk).2.frozen 2))
 first | go_end0 | refine bodyPost_ret (results_none rfl _ _ _) rfl ?_
 rw [e1,Zex]at o2
 have F:=H2.cut hk hil.2 (s1:=⟨some ⟨gd,0,none⟩,N,N⟩) o2 (fun r hr=>by
  have:gd=r:=by simpa [Value.ownBlock]using hr
  subst this
  refine Decidable.byContradiction fun e=>?_
  have:=H.low gd e;omega)
 refine⟨rfl,Z4m hU F (((Stp.of_below b1 U).next s2 (fun y e=> .inr (by omega))).setCell (p:=⟨q i,2,none⟩) (.inl ((hU _).2 (by have:=(H.nd i hk).1;show tg (q i)≠0;omega))) _) (fun y hy=>?_)⟩
 by_cases e:(Value.slice (some ⟨gd,0,none⟩) N N).ownBlock=some y
 · have:gd=y:=by simpa [Value.ownBlock]using e
   exact .inr (by omega)
 · rw [if_neg e]at hy;exact .inl hy
set_option maxRecDepth 100000
def anC (e n:Int) (d l:Value) (k s c:Int):List Value:= [.int .i64 e, .int .i64 n,d,l, .int .i64 k, .int .i64 s, .int .i64 c]
def nilV:Value:= .slice none 0 0
def anZ:List Value:=anC 0 0 nilV nilV 0 0 0
def AnE (e:Int) (A:List Value):Prop:=∃ n d l k s c,A=anC e n d l k s c∧d.oneCell'=true∧l.oneCell'=true
theorem Z0c:AnE 0 anZ:=⟨0,nilV,nilV,0,0,0,rfl,rfl,rfl⟩
theorem AnE.len {e:Int} {A:List Value} (h:AnE e A):A.length=7:=by obtain⟨n,d,l,k,s,c,rfl,_⟩:=h;rfl
theorem AnE.one {e:Int} {A:List Value} (h:AnE e A):∀ v ∈ A,v.oneCell'=true:=by
 obtain⟨n,d,l,k,s,c,rfl,h1,h2⟩:=h
 intro v hv;unfold anC at hv;simp at hv;rcases hv with rfl | rfl | rfl | rfl | rfl | rfl | rfl<;>first | rfl | assumption
theorem AnE.at0 {e:Int} {A:List Value} (h:AnE e A):A[0]? =some (.int .i64 e):=by obtain⟨n,d,l,k,s,c,rfl,_⟩:=h;rfl
theorem Z07 (e:Int):AnE e (anC e 0 nilV nilV 0 0 0):=⟨0,nilV,nilV,0,0,0,rfl,rfl,rfl⟩
theorem Z1y (n:Int):AnE 0 (anC 0 n nilV nilV 0 0 0):=⟨n,nilV,nilV,0,0,0,rfl,rfl,rfl⟩
theorem Z06:Srt 34 7 anZ:=
 ⟨⟨_,Tryz.underlying34,rfl⟩,by kernel_rfl,fun w=>(zero_of_info (v:= .agg anZ.toArray) (n:=7) (by kernel_rfl)).1 w,rfl,Z0c.one⟩
def opC (o:Oz) (s:Sv):List Value:= [.int .i64 o.k, .string (str o.p), .string (str o.q), .int .i64 o.fd, .int .i64 o.n, .int .i64 o.off, .int .i64 o.fl,s.v]
theorem Z4e (o:Oz) (s:Sv):∀ v ∈ opC o s,v.oneCell'=true:=by
 intro v hv;unfold opC at hv;simp at hv;rcases hv with rfl | rfl | rfl | rfl | rfl | rfl | rfl | rfl<;>rfl
def Oz.zero:Oz:=⟨0, [], [],0,0,0,0, []⟩
theorem Z0r:Srt 37 8 (opC Oz.zero Sv.nil):=
 ⟨⟨_,Tryz.underlying37,rfl⟩,by kernel_rfl,fun w=>(zero_of_info (v:= .agg (opC Oz.zero Sv.nil).toArray) (n:=8) (by kernel_rfl)).1 w,rfl,Z4e _ _⟩
structure Oz.wfo (o:Oz):Prop where
 k:wfi o.k
 fd:wfi o.fd
 n:wfi o.n
 off:wfi o.off
 fl:wfi o.fl
 p:o.p.length≤5000
 q:o.q.length≤5000
 d:∀ b ∈ o.d,0≤b∧b≤255
section
variable {ops : Array Oper} {rest : List Oper} {o : Oper} {a : Act} {w : World} {Q : Exit → Act → World → Prop}
theorem Z02 (hw:Region.wanted o (yielded ops a.tmps)=true) (ho:o.op= .alloc 34)
 (h:∀ g w',w.heap.size≤g→g < w'.heap.size→Cs w' g anZ→Below w.heap.size w w'→wpList Tryz.prog ops Q rest (a.put o.dst (.pointer (some ⟨g,0,none⟩))) w'):wpList Tryz.prog ops Q (o::rest) a w:=
 Z1i 34 7 _ Z06 hw ho h
theorem Z03 (hw:Region.wanted o (yielded ops a.tmps)=true) (y z:Operand) (ho:o.op= .store 34 y z) (g:Nat) (hx:a.eval y= .pointer (some ⟨g,0,none⟩)) (A:List Value) (e:Int) (hA:AnE e A) (hy:a.eval z= .agg A.toArray) (cs:List Value) (hR:Cs w g cs) (hl:cs.length=7)
 (h:∀ w',Cs w' g A→Stp (fun x=>x=g) w w'→wpList Tryz.prog ops Q rest (a.put o.dst undef) w'):wpList Tryz.prog ops Q (o::rest) a w:=
 Z1e 34 7 _ Z06 hw y z ho g hx A hy hA.len hA.one cs hR hl h
theorem Z2f (hw:Region.wanted o (yielded ops a.tmps)=true) (y:Operand) (ho:o.op= .load 145 y) (g:Nat) (hx:a.eval y= .pointer (some ⟨g,0,none⟩)) (d:Option Nat) (s:List UInt8) (i:Int) (hR:Cs w g (spC d s i))
 (h:wpList Tryz.prog ops Q rest (a.put o.dst (.agg (spC d s i).toArray)) w):wpList Tryz.prog ops Q (o::rest) a w:=
 Z0k 145 3 _ Z1g hw y ho g hx (spC d s i) hR rfl h
theorem Z05 (hw:Region.wanted o (yielded ops a.tmps)=true) (y:Operand) (ho:o.op= .box 37 y) (oz:Oz) (s:Sv) (hx:a.eval y= .agg (opC oz s).toArray)
 (h:∀ g w',w.heap.size≤g→g < w'.heap.size→Cs w' g (opC oz s)→Below w.heap.size w w'→wpList Tryz.prog ops Q rest (a.put o.dst (.pointer (some ⟨g,0,none⟩))) w'):wpList Tryz.prog ops Q (o::rest) a w:=
 Z2m 37 hw y ho (opC oz s) hx (Z4e _ _) h
end
section
variable {w w1 w2 w3 : World} {g B ga : Nat} {U : Nat → Prop} {q : Int → Nat} {Z : Tz}
theorem TxG.fin (hU:∀ x,U x→x < w.heap.size) (hb:Below w.heap.size w w1) (h:TxG U g q B Z w1 w2) (z1:w.heap.size≤ga) (z2:ga < w1.heap.size) (s:Stp (fun x=>x=ga) w2 w3):TxG U g q B Z w w3:=by
 obtain⟨U',a1,a2,a3⟩:=h
 have hn:∀ x,U' x→¬x=ga:=fun x hx e=>by
  rcases a3 x hx with c | c
  · have:=hU x c;omega
  · omega
 refine⟨U',a1.step s hn,((Stp.of_below hb U).trans a2).next s (fun x e=> .inr (by omega)),fun x hx=>?_⟩
 rcases a3 x hx with c | c
 · exact .inl c
 · exact .inr ⟨Nat.le_trans hb.size c.1,Nat.lt_of_lt_of_le c.2 s.size⟩
theorem TxG.same (h:Tx w U g q B Z) (hb:Below w.heap.size w w1) (z1:w.heap.size≤ga) (s:Stp (fun x=>x=ga) w1 w2):TxG U g q B Z w w2:=
 TxG.refl h (((Stp.of_below hb (fun _=>False)).next s (fun y e=> .inr (by omega))).below (Nat.le_refl _) (fun y e=>e.elim))
theorem TxG.stp (h:TxG U g q B Z w w1):Stp U w w1:=by obtain⟨U',_,a,_⟩:=h;exact a
end
def Ret (e:Ending) (U:Nat→Prop) (g B:Nat) (Z Z':Tz) (E:Int) (w w':World):Prop:=∃ A q,e= .returned (.tuple #[.agg A.toArray, .int .i64 E])∧AnE 0 A∧TxG U g q (B+1) (if E=0 then Z' else Z) w w'
theorem Tx.more {w:World} {U:Nat→Prop} {g B B':Nat} {q:Int→Nat} {Z:Tz} (h:Tx w U g q B Z) (hB:B≤B'):Tx w U g q B' Z:=by
 obtain⟨tg,mb,ob,nb,sv,H,hU⟩:=h
 exact⟨tg,mb,ob,nb,sv,H.more hB,hU⟩
theorem TxG.more {w w':World} {U:Nat→Prop} {g B B':Nat} {q:Int→Nat} {Z:Tz} (h:TxG U g q B Z w w') (hB:B≤B'):TxG U g q B' Z w w':=by
 obtain⟨U',h1,h2,h3⟩:=h
 exact⟨U',h1.more hB,h2,h3⟩
theorem Z0q {U:Nat→Prop} {g B:Nat} {q:Int→Nat} {Z Z':Tz} {E:Int} {w w':World} (hE:E≠0) (h:TxG U g q B Z w w'):Ret (.returned (.tuple #[.agg anZ.toArray, .int .i64 E])) U g B Z Z' E w w':=
 ⟨anZ,q,rfl,Z0c,by rw [if_neg hE];exact h.more (Nat.le_succ B)⟩
theorem Z16 {U:Nat→Prop} {g B:Nat} {q:Int→Nat} {Z Z':Tz} {w w':World} {A:List Value} (hA:AnE 0 A) (h:TxG U g q (B+1) Z' w w'):Ret (.returned (.tuple #[.agg A.toArray, .int .i64 0])) U g B Z Z' 0 w w':=
 ⟨A,q,rfl,hA,by rw [if_pos rfl];exact h⟩
theorem TxG.join {w w1 w2:World} {g B:Nat} {U U' U'':Nat→Prop} {q:Int→Nat} {Z:Tz} (s:Stp U w w1) (e:Grew U U' w w1) (t2:Tx w2 U'' g q B Z) (s2:Stp U' w1 w2) (e2:Grew U' U'' w1 w2):TxG U g q B Z w w2:=by
 refine⟨U'',t2,s.next s2 (fun x hx=>?_),e.trans e2 s.size s2.size⟩
 rcases e x hx with c | c
 · exact .inl c
 · exact .inr c.1
theorem Z8l {w:World} {U:Nat→Prop} {g B n:Nat} {q:Int→Nat} {Z:Tz} (h:Tx w U g q B Z) (hz:Z.ok n) (hn:n≤900) (hB:B≤900) (o:Oz) (ho:o.wfo) (s:Sv):
 Calls Tryz.prog 58 #[.pointer (some ⟨g,0,none⟩), .agg (opC o s).toArray] w fun e w'=>Ret e U g B Z (Z.mdS o) (Z.mdE o) w w':=by
 have hm:n+2≤1000:=by omega
 have hU:=h.low
 have hP:=fun w' (b:Below w.heap.size w w')=>Z1k (h.later b) hz hm o.p ho.p 41 (by decide)
 by_cases h1:Z.paE o.p 41=0
 · obtain⟨p1,p2,p3⟩:=Z1f hz (by decide) h1
   have eE:Z.mdE o=if Z.paI o.p=0 then 0 else 41:=by unfold Tz.mdE;rw [if_pos h1]
   rw [Z1r h1,h1]at hP
   rw [eE]
   clear eE
   by_cases h2:Z.paI o.p=0
   · rw [if_pos h2]
     have hz2:=hz.come 2 (.inr rfl) (Z6j hz)
     have ht:Z.top.toNat=Z.N.length:=by unfold Tz.top;omega
     have hdk:=hz.live (i:=Z.paD o.p) (by rw [p1];decide)
     have N:=fun j=>Z2o (Z:=Z) 2 j
     have ed:(Z.come 2).nd (Z.paD o.p)=Z.nd (Z.paD o.p):=by rw [N,if_neg (by omega)]
     have et:(Z.come 2).nd Z.top=⟨2,0, [], []⟩:=by rw [N Z.top,if_pos ht]
     have eq:∀ b,qUp q Z.top b (Z.paD o.p)=q (Z.paD o.p):=fun b=>by unfold qUp;rw [if_neg (fun e=>by rw [e]at hdk;omega)]
     rw [h2]at hP
     have hNm:=fun b U' w' (hx:Tx w' U' g (qUp q Z.top b) B (Z.come 2))=>Z1b hx hz2 (by omega) (by omega) (d:=Z.paD o.p) (i:=Z.top) (by rw [ed];exact p1) (by rw [et];decide) (lsS o.p) (Z3i p2).2.2 0
     go_enter Tryz.func58,Tryz.ntmps58
     go_wp2_with (first
      | (refine Z05 (by rfl) _ (by rfl) o s (by rfl) ?_;intro g1 w1 z1 z2 r1 b1
         have c10:=r1.cell 0 _ rfl
         have c11:=r1.cell 1 _ rfl
         have c12:=r1.cell 2 _ rfl
         have c13:=r1.cell 3 _ rfl
         have c14:=r1.cell 4 _ rfl
         have c15:=r1.cell 5 _ rfl
         have c16:=r1.cell 6 _ rfl)
      | (refine Z02 (by rfl) (by rfl) ?_;intro g2 w2 z3 z4 r2 b2
         have B2:=Z00q b1 b2 (Nat.le_refl _)
         have r12:=r1.later b2
         clear c10 c11 c12 c13 c14 c15 c16
         have c10:=r12.cell 0 _ rfl
         have c11:=r12.cell 1 _ rfl
         have c12:=r12.cell 2 _ rfl
         have c13:=r12.cell 3 _ rfl
         have c14:=r12.cell 4 _ rfl
         have c15:=r12.cell 5 _ rfl
         have c16:=r12.cell 6 _ rfl)
      | (go_at_call 94;refine(hP _ B2).mono ?_;rintro e w3 ⟨rfl,b3⟩;clear hP
         have B3:=Z00q B2 b3 (Nat.le_refl _)
         have zz3:=B3.size)
      | (refine Z08 (by rfl) (by rfl) ?_;intro g3 w4 z5 z6 r4 b4
         have B4:=Z00q B3 b4 (Nat.le_refl _))
      | (refine Z09 (by rfl) _ _ (by rfl) g3 (by rfl) (some (q (Z.paD o.p))) (lsS o.p) 0 (by rfl) _ r4 rfl ?_;intro w5 r5 s5
         have B5:Below w.heap.size w w5:=((Stp.of_below B4 (fun _=>False)).next s5 (fun y e=> .inr (by omega))).below (Nat.le_refl _) (fun y e=>e.elim)
         have d2:=r5.cell 2 _ rfl
         have r25:Cs w5 g2 anZ:=((r2.later b3).later b4).step s5 (fun e=>by have:=b3.size;omega)
         have gl3:=r5.lt))
     have h5:=h.later B5
     refine Z0p (S:=fun u=>∃ b,TxG U g (qUp q Z.top b) B (Z.come 2) w5 u∨Below w5.heap.size w5 u) _ _ (by simp only [List.pop_toArray,List.dropLast_cons_cons,List.dropLast_singleton];rfl) (by simp only [List.back?_toArray,List.getLast?_cons_cons,List.getLast?_singleton];rfl) (by kernel_rfl) (by kernel_rfl) ⟨0, .inr (Below.refl _ _).drew⟩ (fun hHeld=>?_)
     have kS:∀ u,(∃ b,TxG U g (qUp q Z.top b) B (Z.come 2) w5 u∨Below w5.heap.size w5 u)→Stp U w5 u:=fun u hu=>by
      obtain⟨b,hu | hu⟩:=hu
      · exact hu.stp
      · exact Stp.of_below hu U
     have nU3:¬U g3:=fun e=>by have:=hU g3 e;omega
     have nU2:¬U g2:=fun e=>by have:=hU g2 e;have:=b1.size;omega
     refine tl 0 (.pointer (some ⟨g,0,none⟩)) rfl ?_
     try simp only [z]
     refine tm 1 (.agg (spC (some (q (Z.paD o.p))) (lsS o.p) 0).toArray) rfl
      (Z30 145 3 _ Z1g (by rfl) _ (by rfl) g3 (by rfl) _ rfl (fun u hu=>r5.step (kS u hu) nU3)) ?_
     try simp only [z]
     refine tl 2 (.pointer (some ⟨g,0,none⟩)) rfl ?_
     try simp only [z]
     refine rd 3 rfl (fun K hK=>?_)
     go_simp
     refine(Z7l (h5.later (show Below w5.heap.size w5 w5.drew from(Below.refl _ _).drew)) hz hm 2 (.inr rfl)).mono ?_
     rintro e w6 ⟨b,rfl,G6⟩
     have G6':TxG U g (qUp q Z.top b) B (Z.come 2) w5 w6:=TxG.behind (Below.refl _ _).drew (fun x hx=>h5.low x hx) G6
     try go_wp2_with fail
     refine hK.out _ _ (⟨b, .inl G6'⟩) (fun hHeld=>?_)
     clear hK K
     try simp only [z]
     refine wpAnyH_done (by kernel_rfl) ?_ _
     obtain⟨U6,t6,s6,e6⟩:=G6'
     have r26:=r25.step s6 nU2
     have K7:=hNm b U6 w6 t6
     rw [eq b]at K7
     show wpList _ _ _ [_] _ _
     go_wp2_with (first
      | (go_at_call 97;refine K7.mono ?_;rintro e w7 ⟨rfl,U7,t7,s7,e7⟩
         have r27:=r26.step s7 (fun e=>by
          rcases e6 g2 e with c | c
          · exact nU2 c
          · have:=r25.lt;omega))
      | (refine Z03 (by rfl) _ _ (by rfl) g2 (by rfl) anZ 0 Z0c (by rfl) _ r27 rfl ?_;intro w9 r9 s9))
     have G7:TxG U g (qUp q Z.top b) (B+1) (Z.mdS o) w5 w7:=TxG.join s6 e6 t7 s7 e7
     exact bodyPost_ret (Z0d Z06 Tryz.results58 rfl rfl r9 rfl) rfl (Z16 Z0c (TxG.fin hU B5 G7 (by omega) r25.lt s9))
   · rw [if_neg h2]
     go_enter Tryz.func58,Tryz.ntmps58
     go_wp2_with (first
      | (refine Z05 (by rfl) _ (by rfl) o s (by rfl) ?_;intro g1 w1 z1 z2 r1 b1
         have c10:=r1.cell 0 _ rfl
         have c11:=r1.cell 1 _ rfl
         have c12:=r1.cell 2 _ rfl
         have c13:=r1.cell 3 _ rfl
         have c14:=r1.cell 4 _ rfl
         have c15:=r1.cell 5 _ rfl
         have c16:=r1.cell 6 _ rfl)
      | (refine Z02 (by rfl) (by rfl) ?_;intro g2 w2 z3 z4 r2 b2
         have B2:=Z00q b1 b2 (Nat.le_refl _)
         have r12:=r1.later b2
         clear c10 c11 c12 c13 c14 c15 c16
         have c10:=r12.cell 0 _ rfl
         have c11:=r12.cell 1 _ rfl
         have c12:=r12.cell 2 _ rfl
         have c13:=r12.cell 3 _ rfl
         have c14:=r12.cell 4 _ rfl
         have c15:=r12.cell 5 _ rfl
         have c16:=r12.cell 6 _ rfl)
      | (go_at_call 94;refine(hP _ B2).mono ?_;rintro e w3 ⟨rfl,b3⟩;clear hP
         have B3:=Z00q B2 b3 (Nat.le_refl _)
         have zz3:=B3.size)
      | (refine Z08 (by rfl) (by rfl) ?_;intro g3 w4 z5 z6 r4 b4
         have B4:=Z00q B3 b4 (Nat.le_refl _))
      | (refine Z09 (by rfl) _ _ (by rfl) g3 (by rfl) (some (q (Z.paD o.p))) (lsS o.p) (Z.paI o.p) (by rfl) _ r4 rfl ?_;intro w5 r5 s5
         have B5:Below w.heap.size w w5:=((Stp.of_below B4 (fun _=>False)).next s5 (fun y e=> .inr (by omega))).below (Nat.le_refl _) (fun y e=>e.elim)
         have d2:=r5.cell 2 _ rfl
         have r25:Cs w5 g2 anZ:=((r2.later b3).later b4).step s5 (fun e=>by have:=b3.size;omega)
         have gl3:=r5.lt)
      | (refine Z03 (by rfl) _ _ (by rfl) g2 (by rfl) anZ 0 Z0c (by rfl) _ r25 rfl ?_;intro w9 r9 s9))
     exact bodyPost_ret (Z0d Z06 Tryz.results58 rfl rfl r9 rfl) rfl (Z0q (by decide) (TxG.same h B5 (by omega) s9))
 · have eE:Z.mdE o=Z.paE o.p 41:=by unfold Tz.mdE;rw [if_neg h1]
   rw [Z1o h1]at hP
   rw [eE]
   clear eE
   go_enter Tryz.func58,Tryz.ntmps58
   go_wp2_with (first
    | (refine Z05 (by rfl) _ (by rfl) o s (by rfl) ?_;intro g1 w1 z1 z2 r1 b1
       have c10:=r1.cell 0 _ rfl
       have c11:=r1.cell 1 _ rfl
       have c12:=r1.cell 2 _ rfl
       have c13:=r1.cell 3 _ rfl
       have c14:=r1.cell 4 _ rfl
       have c15:=r1.cell 5 _ rfl
       have c16:=r1.cell 6 _ rfl)
    | (refine Z02 (by rfl) (by rfl) ?_;intro g2 w2 z3 z4 r2 b2
       have B2:=Z00q b1 b2 (Nat.le_refl _)
       have r12:=r1.later b2
       clear c10 c11 c12 c13 c14 c15 c16
       have c10:=r12.cell 0 _ rfl
       have c11:=r12.cell 1 _ rfl
       have c12:=r12.cell 2 _ rfl
       have c13:=r12.cell 3 _ rfl
       have c14:=r12.cell 4 _ rfl
       have c15:=r12.cell 5 _ rfl
       have c16:=r12.cell 6 _ rfl)
    | (go_at_call 94;refine(hP _ B2).mono ?_;rintro e w3 ⟨rfl,b3⟩;clear hP
       have B3:=Z00q B2 b3 (Nat.le_refl _)
       have zz3:=B3.size)
    | (refine Z08 (by rfl) (by rfl) ?_;intro g3 w4 z5 z6 r4 b4
       have B4:=Z00q B3 b4 (Nat.le_refl _))
    | (refine Z09 (by rfl) _ _ (by rfl) g3 (by rfl) none [] 0 (by rfl) _ r4 rfl ?_;intro w5 r5 s5
       have B5:Below w.heap.size w w5:=((Stp.of_below B4 (fun _=>False)).next s5 (fun y e=> .inr (by omega))).below (Nat.le_refl _) (fun y e=>e.elim)
       have d2:=r5.cell 2 _ rfl
       have r25:Cs w5 g2 anZ:=((r2.later b3).later b4).step s5 (fun e=>by have:=b3.size;omega)
       have gl3:=r5.lt)
    | (refine Z03 (by rfl) _ _ (by rfl) g2 (by rfl) anZ 0 Z0c (by rfl) _ r25 rfl ?_;intro w9 r9 s9))
   exact bodyPost_ret (Z0d Z06 Tryz.results58 rfl rfl r9 rfl) rfl (Z0q h1 (TxG.same h B5 (by omega) s9))
set_option maxRecDepth 100000
theorem Z6d {w:World} {U:Nat→Prop} {g B m n:Nat} {q:Int→Nat} {Z:Tz} {x:Int→Int} (h:Tx w U g q B Z) (hz:Z.okD m n x) (hB:B≤1000) {i:Int} (hk:(Z.nd i).k≠0):
 Calls Tryz.prog 41 #[.pointer (some ⟨q i,0,none⟩)] w fun e w'=>∃ v,e= .returned v∧OwT w.heap.size w' v ((Z.nd i).nm.map (·.s))∧Below w.heap.size w w':=by
 obtain⟨tg,mb,ob,nb,sv,H,hU⟩:=h
 by_cases hd:(Z.nd i).k=2
 · have n3:=H.n3 hd
   have hS:=Z8w (H.nm i hd).2 (hz.so i) (fun e he=>by have:=(hz.nw i e he).2.1;omega) (by omega)
   go_enter Tryz.func41,Tryz.ntmps41
   go_wp2_with (first
    | (go_at_call 80;refine(Z6x _ _).mono ?_;rintro e w1 ⟨rfl,rfl⟩)
    | (go_at_call 79;refine hS.mono ?_;rintro e w2 ⟨v,rfl,o2,b2⟩))
   go_returns
   exact⟨v,rfl,o2,b2⟩
 · have n3:=H.n3' hk hd
   have hN:(Z.nd i).nm= []:=hz.fi i (Z1z hz hk hd)
   rw [hN]
   have hS:=Z8x w
   go_enter Tryz.func41,Tryz.ntmps41
   go_wp2_with (first
    | (go_at_call 80;refine(Z6x _ _).mono ?_;rintro e w1 ⟨rfl,rfl⟩)
    | (go_at_call 79;refine hS.mono ?_;rintro e w2 ⟨v,rfl,o2,b2⟩))
   go_returns
   exact⟨v,rfl,o2,b2⟩
theorem Z5x {w:World} {U:Nat→Prop} {g B n:Nat} {q:Int→Nat} {Z:Tz} (h:Tx w U g q B Z) (hz:Z.ok n) (hn:n≤900) (hB:B≤900) (o:Oz) (ho:o.wfo) (s:Sv):
 Calls Tryz.prog 64 #[.pointer (some ⟨g,0,none⟩), .agg (opC o s).toArray] w fun e w'=>Ret e U g B Z Z (Z.lsE' o) w w':=by
 have hm:n+2≤1000:=by omega
 have hU:=h.low
 have hW:=fun w' (b:Below w.heap.size w w')=>Z2z (h.later b) hz hm o.p ho.p
 by_cases h1:(Z.wa o.p).2=0
 · have hk:=Z2d hz h1
   have hD:=fun w' (b:Below w.heap.size w w')=>Z1u (h.later b) hz hm hk
   rw [h1]at hW
   by_cases h2:(Z.nd (Z.wa o.p).1).k=2
   · have eE:Z.lsE' o=0:=by unfold Tz.lsE';rw [if_pos h1,if_pos h2]
     rw [eE]
     rw [h2]at hD
     clear eE
     have hR:=fun w' (b:Below w.heap.size w w')=>Z6d (h.later b) hz (by omega) hk
     go_enter Tryz.func64,Tryz.ntmps64
     go_wp2_with (first
      | (refine Z05 (by rfl) _ (by rfl) o s (by rfl) ?_;intro g1 w1 z1 z2 r1 b1
         have c10:=r1.cell 0 _ rfl
         have c11:=r1.cell 1 _ rfl
         have c12:=r1.cell 2 _ rfl
         have c13:=r1.cell 3 _ rfl
         have c14:=r1.cell 4 _ rfl
         have c15:=r1.cell 5 _ rfl
         have c16:=r1.cell 6 _ rfl)
      | (refine Z02 (by rfl) (by rfl) ?_;intro g2 w2 z3 z4 r2 b2
         have B2:=Z00q b1 b2 (Nat.le_refl _)
         have r12:=r1.later b2
         clear c10 c11 c12 c13 c14 c15 c16
         have c10:=r12.cell 0 _ rfl
         have c11:=r12.cell 1 _ rfl
         have c12:=r12.cell 2 _ rfl
         have c13:=r12.cell 3 _ rfl
         have c14:=r12.cell 4 _ rfl
         have c15:=r12.cell 5 _ rfl
         have c16:=r12.cell 6 _ rfl)
      | (go_at_call 13;refine(hW _ B2).mono ?_;rintro e w3 ⟨rfl,b3⟩;clear hW
         have B3:=Z00q B2 b3 (Nat.le_refl _)
         have zz3:=B3.size
         have r13:=r12.later b3
         have r23:=r2.later b3
         clear c10 c11 c12 c13 c14 c15 c16
         have c12:=r13.cell 2 _ rfl
         have c14:=r13.cell 4 _ rfl)
      | (go_at_call 104;refine(hD _ B3).mono ?_;rintro e u ⟨rfl,rfl⟩
         obtain⟨tg,mb,ob,nb,sv,H3,hU3⟩:=h.later B3
         have t0:=H3.c0
         have lo:=H3.look hk (Z13 hz hm hk))
      | (go_at_call 41;refine(hR _ B3).mono ?_;rintro e w4 ⟨v,rfl,o4,b4⟩
         obtain⟨a5,c5,rfl,_,_⟩:=o4.shape
         have hAn:AnE 0 (anC 0 0 nilV (.slice a5 (Z.nd (Z.wa o.p).1).nm.length c5) 0 0 0):=⟨0,nilV, .slice a5 (Z.nd (Z.wa o.p).1).nm.length c5,0,0,0,rfl,rfl,rfl⟩
         have B4:=Z00q B3 b4 (Nat.le_refl _)
         have r24:=r23.later b4)
      | (refine Z03 (by rfl) _ _ (by rfl) g2 (by rfl) (anC 0 0 nilV (.slice a5 (Z.nd (Z.wa o.p).1).nm.length c5) 0 0 0) 0 hAn (by rfl) _ r24 rfl ?_;intro w9 r9 s9))
     exact bodyPost_ret (Z0d Z06 Tryz.results64 rfl rfl r9 rfl) rfl (Z16 hAn ((TxG.same h B4 (by omega) s9).more (Nat.le_succ B)))
   · have eE:Z.lsE' o=42:=by unfold Tz.lsE';rw [if_pos h1,if_neg h2]
     rw [eE]
     rw [decide_eq_false h2]at hD
     clear eE
     go_enter Tryz.func64,Tryz.ntmps64
     go_wp2_with (first
      | (refine Z05 (by rfl) _ (by rfl) o s (by rfl) ?_;intro g1 w1 z1 z2 r1 b1
         have c10:=r1.cell 0 _ rfl
         have c11:=r1.cell 1 _ rfl
         have c12:=r1.cell 2 _ rfl
         have c13:=r1.cell 3 _ rfl
         have c14:=r1.cell 4 _ rfl
         have c15:=r1.cell 5 _ rfl
         have c16:=r1.cell 6 _ rfl)
      | (refine Z02 (by rfl) (by rfl) ?_;intro g2 w2 z3 z4 r2 b2
         have B2:=Z00q b1 b2 (Nat.le_refl _)
         have r12:=r1.later b2
         clear c10 c11 c12 c13 c14 c15 c16
         have c10:=r12.cell 0 _ rfl
         have c11:=r12.cell 1 _ rfl
         have c12:=r12.cell 2 _ rfl
         have c13:=r12.cell 3 _ rfl
         have c14:=r12.cell 4 _ rfl
         have c15:=r12.cell 5 _ rfl
         have c16:=r12.cell 6 _ rfl)
      | (go_at_call 13;refine(hW _ B2).mono ?_;rintro e w3 ⟨rfl,b3⟩;clear hW
         have B3:=Z00q B2 b3 (Nat.le_refl _)
         have zz3:=B3.size
         have r13:=r12.later b3
         have r23:=r2.later b3
         clear c10 c11 c12 c13 c14 c15 c16
         have c12:=r13.cell 2 _ rfl
         have c14:=r13.cell 4 _ rfl)
      | (go_at_call 104;refine(hD _ B3).mono ?_;rintro e u ⟨rfl,rfl⟩)
      | (refine Z03 (by rfl) _ _ (by rfl) g2 (by rfl) anZ 0 Z0c (by rfl) _ r23 rfl ?_;intro w9 r9 s9))
     exact bodyPost_ret (Z0d Z06 Tryz.results64 rfl rfl r9 rfl) rfl (Z0q (by decide) (TxG.same h B3 (by omega) s9))
 · have eE:Z.lsE' o=(Z.wa o.p).2:=by unfold Tz.lsE';rw [if_neg h1]
   rw [eE]
   clear eE
   go_enter Tryz.func64,Tryz.ntmps64
   go_wp2_with (first
    | (refine Z05 (by rfl) _ (by rfl) o s (by rfl) ?_;intro g1 w1 z1 z2 r1 b1
       have c10:=r1.cell 0 _ rfl
       have c11:=r1.cell 1 _ rfl
       have c12:=r1.cell 2 _ rfl
       have c13:=r1.cell 3 _ rfl
       have c14:=r1.cell 4 _ rfl
       have c15:=r1.cell 5 _ rfl
       have c16:=r1.cell 6 _ rfl)
    | (refine Z02 (by rfl) (by rfl) ?_;intro g2 w2 z3 z4 r2 b2
       have B2:=Z00q b1 b2 (Nat.le_refl _)
       have r12:=r1.later b2
       clear c10 c11 c12 c13 c14 c15 c16
       have c10:=r12.cell 0 _ rfl
       have c11:=r12.cell 1 _ rfl
       have c12:=r12.cell 2 _ rfl
       have c13:=r12.cell 3 _ rfl
       have c14:=r12.cell 4 _ rfl
       have c15:=r12.cell 5 _ rfl
       have c16:=r12.cell 6 _ rfl)
    | (go_at_call 13;refine(hW _ B2).mono ?_;rintro e w3 ⟨rfl,b3⟩;clear hW
       have B3:=Z00q B2 b3 (Nat.le_refl _)
       have zz3:=B3.size
       have r13:=r12.later b3
       have r23:=r2.later b3
       clear c10 c11 c12 c13 c14 c15 c16
       have c12:=r13.cell 2 _ rfl
       have c14:=r13.cell 4 _ rfl)
    | (refine Z03 (by rfl) _ _ (by rfl) g2 (by rfl) anZ 0 Z0c (by rfl) _ r23 rfl ?_;intro w9 r9 s9))
   exact bodyPost_ret (Z0d Z06 Tryz.results64 rfl rfl r9 rfl) rfl (Z0q h1 (TxG.same h B3 (by omega) s9))
set_option maxRecDepth 100000
section
variable {w : World} {tg : Nat → Nat} {g mb ob B : Nat} {q nb : Int → Nat} {sv : Int → Sv} {Z : Tz}
def TwG (tg:Nat→Nat) (g mb ob:Nat) (q nb:Int→Nat) (sv:Int→Sv) (B:Nat) (Z':Tz) (w w':World):Prop:=∃ tg',Tw w' tg' g mb ob q nb sv B Z'∧Stp (fun y=>tg y≠0) w w'∧∀ y,tg' y≠0→tg y≠0∨w.heap.size≤y
theorem tget (H:Tw w tg g mb ob q nb sv B Z) (fd:Int):
 Calls Tryz.prog 65 #[.pointer (some ⟨ob,0,none⟩), .int .i64 fd] w fun e w'=>e= .returned (.tuple #[.agg (Z01 Z.t fd).cs.toArray, .int .i64 (Z04 Z.t fd)])∧Below w.heap.size w w':=by
 obtain⟨U,h1,h2⟩:=H.fd
 exact Z0o h1 fd
theorem Z8h (H:Tw w tg g mb ob q nb sv B Z) {U U':Nat→Prop} {t:FT} {w':World} (hU:∀ x,U x→tg x=3) (hF:Fd w' U' ob t) (k:Stp U w w') (hG:Grew U U' w w'):TwG tg g mb ob q nb sv B (Z.fds t) w w':=by
 obtain⟨tg',a1,a2,a3⟩:=H.table hU hF k hG
 exact⟨tg',a1,k.mono (fun y e=> .inl (by have:=hU y e;omega)),a3⟩
theorem Z55 (H:Tw w tg g mb ob q nb sv B Z) (fd p:Int):
 Calls Tryz.prog 103 #[.pointer (some ⟨ob,0,none⟩), .int .i64 fd, .int .i64 p] w fun e w'=>e= .returned (.int .i64 (Z0w Z.t fd p))∧TwG tg g mb ob q nb sv B (Z.fds (Z0f Z.t fd p)) w w':=by
 obtain⟨U,h1,h2⟩:=H.fd
 refine(Z3k h1 fd p).mono ?_
 rintro e w' ⟨rfl,k1,k2⟩
 exact⟨rfl,Z8h H h2 k1 k2 (Grew.refl _ _ _)⟩
theorem Zbq (H:Tw w tg g mb ob q nb sv B Z) (fd:Int):
 Calls Tryz.prog 100 #[.pointer (some ⟨ob,0,none⟩), .int .i64 fd] w fun e w'=>e= .returned (.tuple #[.agg (Z01 Z.t fd).cs.toArray, .int .i64 (Z04 Z.t fd)])∧TwG tg g mb ob q nb sv B (Z.fds (Z12 Z.t fd)) w w':=by
 obtain⟨U,h1,h2⟩:=H.fd
 refine(Z4o h1 fd).mono ?_
 rintro e w' ⟨rfl,k1,k2⟩
 exact⟨rfl,Z8h H h2 k1 k2 (Grew.refl _ _ _)⟩
theorem Zhq (H:Tw w tg g mb ob q nb sv B Z) (i m:Int):
 Calls Tryz.prog 99 #[.pointer (some ⟨ob,0,none⟩), .int .i64 i, .int .i64 m] w fun e w'=>e= .returned (.tuple #[.int .i64 (Z15 Z.t), .int .i64 (Z19 Z.t)])∧TwG tg g mb ob q nb sv B (Z.fds (Z0g Z.t i m)) w w':=by
 obtain⟨U,h1,h2⟩:=H.fd
 refine(Z43 h1 i m).mono ?_
 rintro e w' ⟨rfl,U',k1,k2,k3⟩
 exact⟨rfl,Z8h H h2 k1 k2 k3⟩
end
section
variable {ops : Array Oper} {rest : List Oper} {o : Oper} {a : Act} {w : World} {Q : Exit → Act → World → Prop}
theorem Z2p {E:Prop} {K:Act→World→Prop} (hgd:o.guard=none) (ho:o.op= .alloc 108)
 (h:∀ g w',w.heap.size≤g→g < w'.heap.size→Cs w' g Fl.zero.cs→Below w.heap.size w w'→K (a.put o.dst (.pointer (some ⟨g,0,none⟩))) w'):if Region.wanted o (yielded ops a.tmps)=true then Oper.wp Tryz.prog o a w K Q else E:=
 Z0t 108 3 _ Z2t hgd ho h
theorem Z2q {E:Prop} {K:Act→World→Prop} (hgd:o.guard=none) (x y:Operand) (ho:o.op= .store 108 x y) (g:Nat) (hx:a.eval x= .pointer (some ⟨g,0,none⟩)) (f:Fl) (hy:a.eval y= .agg f.cs.toArray) (cs:List Value) (hR:Cs w g cs) (hl:cs.length=3)
 (h:∀ w',Cs w' g f.cs→Stp (fun x=>x=g) w w'→K (a.put o.dst undef) w'):if Region.wanted o (yielded ops a.tmps)=true then Oper.wp Tryz.prog o a w K Q else E:=
 Z0n 108 3 _ Z2t hgd x y ho g hx f.cs hy rfl f.cs_one cs hR hl h
theorem Z39 {E:Prop} {K:Act→World→Prop} (hgd:o.guard=none) (x y:Operand) (ho:o.op= .store 34 x y) (g:Nat) (hx:a.eval x= .pointer (some ⟨g,0,none⟩)) (A:List Value) (e:Int) (hA:AnE e A) (hy:a.eval y= .agg A.toArray) (cs:List Value) (hR:Cs w g cs) (hl:cs.length=7)
 (h:∀ w',Cs w' g A→Stp (fun x=>x=g) w w'→K (a.put o.dst undef) w'):if Region.wanted o (yielded ops a.tmps)=true then Oper.wp Tryz.prog o a w K Q else E:=
 Z0n 34 7 _ Z06 hgd x y ho g hx A hy hA.len hA.one cs hR hl h
end
theorem Z5i (n:Int) (w:World):(Instr.build 34 #[(1, .int .i64 n)]).run Tryz.prog w= .ok (.agg (anC 0 n nilV nilV 0 0 0).toArray) w:=by kernel_rfl
theorem Z41 {Z:Tz} {fd p:Int} (h:Z04 Z.t fd=0) (hp:0≤p):Z0w Z.t fd p=0:=by
 unfold Z04 at h
 unfold Z0w
 split
 · rw [if_neg (by omega)]
 · rename_i e;rw [if_neg e]at h;cases h
theorem Z3u {w wc wE:World} {tg tS:Nat→Nat} {g mb ob B ga:Nat} {q nb:Int→Nat} {sv:Int→Sv} {Z':Tz} {U:Nat→Prop} (hb:Below w.heap.size w wc) (hU:∀ x,U x↔tg x≠0) (z:w.heap.size≤ga) (HS:Tw wE tS g mb ob q nb sv B Z') (k:Stp (fun y=>tg y≠0∨y=ga) wc wE) (gr:∀ y,tS y≠0→tg y≠0∨wc.heap.size≤y):TxG U g q B Z' w wE:=by
 refine Z4m (tg:=tg) hU HS ((Stp.of_below hb U).next k (fun y e=>?_)) (fun y hy=>?_)
 · rcases e with e | e
   · exact .inl ((hU y).2 e)
   · exact .inr (by omega)
 · rcases gr y hy with e | e
   · exact .inl e
   · exact .inr (Nat.le_trans hb.size e)
end Go.Proofs.YtdnjddpfcgginaaGreat
