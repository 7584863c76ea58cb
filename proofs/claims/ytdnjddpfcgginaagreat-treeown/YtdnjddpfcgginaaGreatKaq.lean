/-
  Texts of my own, joined: no statement is proved here.
-/
import Derived.Test.YtdnjddpfcgginaaGreatKap
set_option linter.unusedSimpArgs false
set_option linter.unusedVariables false
namespace Go.Proofs.YtdnjddpfcgginaaGreat
open Go.ChangeShapes Go.WideShapes Go.ChangeAt Go.RowKit
set_option maxRecDepth 100000
def ndN (k:Int):List Value:= [.int .i64 k, .int .i64 1, .slice none 0 0, .slice none 0 0]
theorem Z9c (k:Int):∀ v ∈ ndN k,v.oneCell'=true:=by
 intro v hv;unfold ndN at hv;simp at hv;rcases hv with rfl | rfl | rfl<;>rfl
theorem Zes (k:Int) (w:World):(Instr.buildSlice 39 1 #[(0, .agg (ndN k).toArray)]).run Tryz.prog w= .ok (.slice (some ⟨w.heap.size,0,none⟩) 1 1) (w.alloc (.cells (ndN k).toArray 76)):=by kernel_rfl
section
variable {ops : Array Oper} {rest : List Oper} {o : Oper} {a : Act} {w : World} {Q : Exit → Act → World → Prop}
theorem Zdf (hw:Region.wanted o (yielded ops a.tmps)=true) (x:Operand) (ho:o.op= .buildSlice 39 1 #[(0,x)]) (k:Int) (hx:a.eval x= .agg (ndN k).toArray)
 (h:∀ g w',w.heap.size≤g→Cs w' g (ndN k)→Below w.heap.size w w'→wpList Tryz.prog ops Q rest (a.put o.dst (.slice (some ⟨g,0,none⟩) 1 1)) w'):wpList Tryz.prog ops Q (o::rest) a w:=by
 refine Z0z hw _ _ ?_ (h w.heap.size _ (Nat.le_refl _) (Cs.made w (ndN k) 76 (Z9c k)) ((Below.refl _ _).alloc (Nat.le_refl _) _))
 simp [execOp,ho,hx,Zes]
theorem Zbz {r c n:Nat} {F:Nat→Value} (hgd:o.guard=none) (s x:Operand)
 (ho:o.op= .call { callee:= .builtin .append,args:=#[s,x],argTypes:=#[39,39]}) (hs:a.eval s= .slice (some ⟨r,0,none⟩) n c) (h0:Nr w r c n F)
 (g2:Nat) (k:Int) (hx:a.eval x= .slice (some ⟨g2,0,none⟩) 1 1) (hr:Cs w g2 (ndN k)) (hbig:n≤100000)
 (h:∀ r' c' w',(r'=r∨w.heap.size≤r')→w'.ownsRow 0 76 4 (.slice (some ⟨r',0,none⟩) (n+1) c') (n+1) ((List.range (n * 4)).map F++ndN k)→Stp (fun x=>x=r) w w'→wpList Tryz.prog ops Q rest (a.put o.dst (.slice (some ⟨r',0,none⟩) (n+1) c')) w'):wpList Tryz.prog ops Q (o::rest) a w:=by
 refine Z3c elNd 0 hgd s x ho hs h0 (fun _ _=>Nat.zero_le _) (some ⟨g2,0,none⟩) 1 (ndN k) (m:=1) hx rfl (fun e=>by cases e) (fun ad e j u hu=>?_) (Z9c k) (by omega) (Nat.zero_le _) ?_
 · injection e with e;subst e
   rw [Addr.add_lit,Nat.zero_add];exact hr.cell j u hu
 intro v' w' hA
 obtain⟨h1,h2,h3,h4,h5⟩:=hA
 rcases h1.2 with⟨_,e⟩ | ⟨g,cap,cur,rfl,e2⟩
 · omega
 · refine h g cap w' ?_ h1 (h4.mono (fun x e=> .inl (show x=r by simpa [Value.ownBlock,eq_comm]using e)))
   rcases h3 with e | e
   · left;simpa [Value.ownBlock]using e
   · right
     have:g=w.heap.size:=by simpa [Value.ownBlock]using e.1
     omega
end
set_option maxHeartbeats 4000000 in
theorem Zba {w:World} {U:Nat→Prop} {y:Nat} {Z:Tz} (h:Dx w U y Z) (hf:Z.N.length≤1000) {d:Int} (hd:0≤d∧d.toNat < Z.N.length) (hso:Srd (Z.nd d).nm) (hnl:(Z.nd d).nm.length≤1000) (t:List UInt8) (kd:Int):
 Calls Tryz.prog 68 #[.pointer (some ⟨y,0,none⟩), .int .i64 d, .string (str t), .int .i64 kd] w fun e w'=>e= .returned (.int .i64 Z.top)∧DxG U y (Z.mkN kd d t) w w':=by
 obtain⟨fb,r,c,A,F,sd,sn,H,hU⟩:=h
 have hlow:∀ x,U x→x < w.heap.size:=Dx.low ⟨fb,r,c,A,F,sd,sn,H,hU⟩
 have c0:=H.c0
 have hy:=H.tr.lt
 have hn2:=H.n2
 have hlc:(Z.comeL kd).N.length=Z.N.length+1:=by unfold Tz.comeL;simp
 have hdn:(Z.comeL kd).nd d=Z.nd d:=by rw [Z5t,if_neg (by omega)]
 have eM:Hid (Z.mkN kd d t=(Z.comeL kd).put d t Z.top):=Zgt hd.2
 have K:=fun U' w' (h:Dx w' U' y (Z.comeL kd))=>Z40 h (d:=d) ⟨hd.1,by rw [hlc];omega⟩ (by rw [hdn];exact hso) (by rw [hdn];exact hnl) t Z.top
 have etop:Z.top=(Z.N.length:Int):=rfl
 obtain⟨n,hn⟩:∃ n,Hid (Z.N.length=n):=⟨_,rfl⟩
 rw [etop,hn.out]at K
 rw [etop,hn.out]
 rw [hn.out]at c0 hf
 have hrow:=H.row
 rw [hn.out]at hrow
 have ny:∀ r':Nat,(r'=r∨w.heap.size≤r')→∀ x,Value.ownBlock (.slice (some ⟨r',0,none⟩) (n+1) 0)=some x→¬x=y:=fun r' h x e=>by
  have:r'=x:=by simpa [Value.ownBlock]using e
  omega
 have tk:True:=trivial
 go_enter Tryz.func68,Tryz.ntmps68
 go_wp2_with (first
  | (refine Zdf (by rfl) _ (by rfl) kd (by rfl) ?_;intro g1 w1 z1 r1 b1
     have row1:=hrow.step (Stp.of_below b1 (fun _=>False)) (fun e=>e)
     have H1:=H.later b1)
  | (refine Zbz rfl _ _ (by rfl) (by rfl) row1 g1 kd (by rfl) r1 (by omega) ?_;intro r' c' w2 hr' hR2 s2
     have T2:=H1.tr.step s2 hn2
     have d0:=T2.cell 0 _ rfl
     have f0:=T2.frozen 0
     clear tk)
  | (go_at_call 75
     have T4:=T2.set 0 (.slice (some ⟨r',0,none⟩) (n+1) c') rfl
     have s4:Stp (fun x=>x=r∨x=y) w1 (w2.setCell ⟨y,0,none⟩ (.slice (some ⟨r',0,none⟩) (n+1) c')):=(s2.mono (fun x e=> .inl (.inl e))).setCell (p:=⟨y,0,none⟩) (.inl (.inr rfl)) _
     have R4:=Z4j hR2 ((Stp.refl (fun x=>x=y) w2).setCell (p:=⟨y,0,none⟩) (.inl rfl) (.slice (some ⟨r',0,none⟩) (n+1) c')) (fun x e=>ny r' (by have:=b1.size;omega) x e)
     have T4':Cs (w2.setCell ⟨y,0,none⟩ (.slice (some ⟨r',0,none⟩) (n+1) c')) y [.slice (some ⟨r',0,none⟩) (Z.N.length+1) c', .pointer (some ⟨fb,0,none⟩)]:=by rw [hn.out];exact T4
     obtain⟨F4,H4⟩:=H1.come kd s4 T4' hr' (by rw [hn.out];exact R4)
     have zz1:=b1.size
     have zz4:=s4.size
     have l4:=H4.row.lt
     have S4:Stp U w (w2.setCell ⟨y,0,none⟩ (.slice (some ⟨r',0,none⟩) (n+1) c')):=(Stp.of_below b1 U).next s4 (fun x e=> .inl ((hU x).2 (by rcases e with e | e;exact .inr (.inr (.inl e));exact .inl e)))
     have E4:Grew U (fun x=>x=y∨x=fb∨x=r'∨A x) w (w2.setCell ⟨y,0,none⟩ (.slice (some ⟨r',0,none⟩) (n+1) c')):=fun x e=>by
      rcases e with e | e | e | e
      · exact .inl ((hU x).2 (.inl e))
      · exact .inl ((hU x).2 (.inr (.inl e)))
      · rcases hr' with q | q
        · exact .inl ((hU x).2 (.inr (.inr (.inl (e.trans q)))))
        · exact .inr (by omega)
      · exact .inl ((hU x).2 (.inr (.inr (.inr e))))
     refine(K _ _ ⟨fb,r',c',A,F4,_,_,H4,fun x=>Iff.rfl⟩).mono ?_
     rintro e w5 ⟨rfl,G5⟩
     have GG:=DxG.join S4 E4 G5
     obtain⟨U5,⟨fb5,r5,c5,A5,F5,sd5,sn5,H5,hU5⟩,s5,e5⟩:=G5
     have d5:=H5.c0
     have e6:((Z.comeL kd).put d t (n:Int)).N.length=n+1:=by rw [Z0h,hlc,hn.out]
     rw [e6]at d5))
 go_returns
 refine⟨rfl,?_⟩
 rw [eM.out,etop,hn.out]
 exact GG
set_option maxRecDepth 100000
def OwB (B:Nat) (w:World) (v:Value) (d:List Int):Prop:=OwD w v d∧New B v
theorem OwB.later {B:Nat} {w w':World} {v:Value} {d:List Int} (h:OwB B w v d) (k:Below w.heap.size w w'):OwB B w' v d:=⟨h.1.later k,h.2⟩
section
variable {ops : Array Oper} {rest : List Oper} {o : Oper} {a : Act} {w : World} {Q : Exit → Act → World → Prop}
theorem Z8y {B:Nat} (hw:Region.wanted o (yielded ops a.tmps)=true) (ho:o.op= .buildSlice 29 0 #[]) (hB:B≤w.heap.size)
 (h:∀ g w',OwB B w' (.slice (some ⟨g,0,none⟩) 0 0) []→Below w.heap.size w w'→wpList Tryz.prog ops Q rest (a.put o.dst (.slice (some ⟨g,0,none⟩) 0 0)) w'):wpList Tryz.prog ops Q (o::rest) a w:=by
 have hR:(w.alloc (.cells #[] 5)).ownsRow B 5 1 (.slice (some ⟨w.heap.size,0,none⟩) 0 0) 0 []:=World.ownsRow_made w #[] 0 hB (Nat.zero_le _) rfl
 refine Z0z hw _ _ ?_ (h w.heap.size _ ⟨Z4k hR,fun r hr=>(hR.lt r hr).1⟩ ((Below.refl _ _).alloc (Nat.le_refl _) _))
 have:(Instr.buildSlice 29 0 #[]).run Tryz.prog w= .ok (.slice (some ⟨w.heap.size,0,none⟩) 0 0) (w.alloc (.cells #[] 5)):=by kernel_rfl
 simp [execOp,ho,this]
theorem Zde (hw:Region.wanted o (yielded ops a.tmps)=true) (x:Operand) (ho:o.op= .buildSlice 29 1 #[(0,x)]) (hx:a.eval x= .int .u8 0)
 (h:∀ g w',w'.cell? ⟨g,0,none⟩=some (.int .u8 0)→Below w.heap.size w w'→wpList Tryz.prog ops Q rest (a.put o.dst (.slice (some ⟨g,0,none⟩) 1 1)) w'):wpList Tryz.prog ops Q (o::rest) a w:=by
 refine Z0z hw _ _ ?_ (h w.heap.size (w.alloc (.cells #[.int .u8 0] 5)) (by simp) ((Below.refl _ _).alloc (Nat.le_refl _) _))
 have:(Instr.buildSlice 29 1 #[(0, .int .u8 0)]).run Tryz.prog w= .ok (.slice (some ⟨w.heap.size,0,none⟩) 1 1) (w.alloc (.cells #[.int .u8 0] 5)):=by kernel_rfl
 simp [execOp,ho,hx,this]
theorem Z6k {B:Nat} {v:Value} {d d2:List Int} (hgd:o.guard=none) (s x:Operand)
 (ho:o.op= .call { callee:= .builtin .append,args:=#[s,x],argTypes:=#[29,29]}) (hs:a.eval s=v) (h0:OwB B w v d)
 (xa:Option Addr) (m c:Nat) (hm:d2.length=m) (hx:a.eval x= .slice xa m c) (hnil:xa=none→m=0∧c=0) (hr:∀ ad,xa=some ad→∀ j u,(d2.map (Value.int .u8))[j]? =some u→w.cell? (ad.add j)=some u) (hbig:d.length+m≤1000000) (hB:B≤w.heap.size)
 (h:∀ v' w',OwB B w' v' (d++d2)→Stp (fun x=>B≤x) w w'→wpList Tryz.prog ops Q rest (a.put o.dst v') w'):wpList Tryz.prog ops Q (o::rest) a w:=by
 refine Z3c elB B hgd s x ho hs h0.1 h0.2 xa c (d2.map (Value.int .u8)) (m:=m) hx (by simp [hm]) hnil hr (fun u hu=>by obtain⟨y,_,rfl⟩:=List.mem_map.1 hu;rfl) hbig hB ?_
 intro v' w' hA
 obtain⟨h1,h2,h3,h4,h5⟩:=hA
 refine h v' w' ⟨?_,h2⟩ (h4.mono (fun x e=> .inl (h0.2 x e)))
 unfold OwD
 rw [List.length_append,List.map_append,hm];exact h1
end
set_option maxHeartbeats 4000000 in
theorem Z86 {w:World} {s:Sv} {l:List Int} (h:BsS w s l) (hl:l.length≤48640) (n:Nat) (hn:n≤48640):
 Calls Tryz.prog 74 #[.slice s.a s.n s.c, .int .i64 (n:Int)] w fun e w'=>∃ v,e= .returned v∧OwB w.heap.size w' v (ctB' l n)∧Below w.heap.size w w':=by
 have hls:=h.len
 have hz:=h.zero
 have hcs:=h.cells
 have hle:=h.le
 have hcap:=h.cap
 obtain⟨sa,sn,sc⟩:=s
 simp only at hls hz hle hcap hcs
 subst hls
 unfold maxLen at hcap
 obtain⟨P,hP⟩:∃ P:Nat,min l.length n=P:=⟨_,rfl⟩
 have hPi:(min (l.length:Int) (n:Int))=(P:Int):=by omega
 have hPl:P≤l.length:=by omega
 have hPn:P≤n:=by omega
 have hPc:P≤sc:=by omega
 have htk:l.take n=l.take P:=by
  rw [← hP]
  by_cases e:l.length≤n
  · rw [Nat.min_eq_left e,List.take_of_length_le e,List.take_length]
  · rw [Nat.min_eq_right (by omega)]
 have hct:Hid (ctB' l n=l.take P++List.replicate (n - P) 0):=by
  show _=_
  unfold ctB'
  rw [htk]
  congr 2
  omega
 have hlt:(l.take P).length=P:=by simp;omega
 have hcell:∀ ad,sa=some ad→∀ j u,((l.take P).map (Value.int .u8))[j]? =some u→w.cell? (ad.add j)=some u:=fun ad e j u hu=>hcs ad e j u (by
  rw [List.map_take,List.getElem?_take]at hu
  split at hu
  · exact hu
  · cases hu)
 have hnil:sa=none→P=0∧sc=0:=fun e=>by obtain⟨q1,q2,q3⟩:=hz e;omega
 clear hcs hz htk hP
 have a1:(0:Int)≤(P:Int):=by omega
 have a2:(P:Int)≤(sc:Int):=by omega
 go_enter Tryz.func74,Tryz.ntmps74
 have tk:True:=trivial
 go_wp2_with (first
  | (refine Z8y (B:=w.heap.size) (by rfl) (by rfl) (Nat.le_refl _) ?_;clear tk;intro g0 w0 o0 b0)
  | (refine Z6k (B:=w.heap.size) (d2:=l.take P) rfl _ _ (by rfl) (by rfl) o0 sa P sc hlt (by rfl) hnil (fun ad e j u hu=>(Stp.of_below b0 (fun _=>False)).cell (hcell ad e j u hu) (fun e=>e)) (by simp;omega) b0.size ?_;intro v1 w1 o1 s1
     rw [List.nil_append]at o1
     have B1:=Z2i b0 s1))
 go_loopw [5] (fun ov wr=>∃ j:Nat,j≤n - P∧OwB w.heap.size wr ov (l.take P++List.replicate j 0)∧Below w.heap.size w wr) (fun ov _=>n - (match ov with | .slice _ m _=>m | _=>0))
 case atStart=>exact⟨0,Nat.zero_le _,by simpa using o1,B1⟩
 case round=>
  obtain⟨j,hj,hO,hB⟩:=hrel
  obtain⟨s',rfl,hs'⟩:=hO.1.shape
  obtain⟨va,vn,vc⟩:=s'
  simp only at hs'
  rw [List.length_append,hlt,List.length_replicate]at hs'
  by_cases hlt2:j < n - P
  · have a9:(vn:Int) < (n:Int):=by omega
    go_wp2_with (first
     | (refine Zde (by rfl) _ (by rfl) (by rfl) ?_;intro g3 w3 c3 b3
        have o3:=hO.later b3
        have B3:=Z00q hB b3 (Nat.le_refl _))
     | (refine Z6k (B:=w.heap.size) (d2:= [0]) rfl _ _ (by rfl) (by rfl) o3 (some ⟨g3,0,none⟩) 1 1 rfl (by rfl) (fun e=>by cases e) (fun ad e q u hu=>by
         injection e with e;subst e
         match q,hu with
         | 0,hu=>simp at hu;subst hu;exact c3
         | q+1,hu=>simp at hu) (by rw [List.length_append,hlt,List.length_replicate];omega) B3.size ?_;intro v4 w4 o4 s4
        have B4:=Z2i B3 s4))
    have e4:l.take P++List.replicate j 0++ [(0:Int)]=l.take P++List.replicate (j+1) 0:=by rw [List.append_assoc,← List.replicate_succ']
    rw [e4]at o4
    obtain⟨s4',rfl,hs4⟩:=o4.1.shape
    rw [List.length_append,hlt,List.length_replicate]at hs4
    go_roundw
    case rel=>exact⟨j+1,by omega,o4,B4⟩
    case measure=>simp;omega
  · obtain rfl:j=n - P:=by omega
    obtain rfl:vn=n:=by omega
    clear hs'
    have a9:¬(vn:Int) < (vn:Int):=by omega
    rw [← hct.out]at hO
    go_wp2
    go_returns
    exact⟨_,rfl,hO,hB⟩
set_option maxRecDepth 100000
theorem Z0a {fn:Func} {p:Tmp} {tmps:Array Value} {w:World} {g T n:Nat} {z cs:List Value} (hT:Srt T n z) (h:fn.results=#[.cell p T]) (hp:tmps.getD p undef= .pointer (some ⟨g,0,none⟩)) (hR:Cs w g cs) (hl:cs.length=n):(results fn tmps).run Tryz.prog w= .ok (.agg cs.toArray) w:=by
 have hp':tmps[p]?.getD undef= .pointer (some ⟨g,0,none⟩):=by simpa using hp
 simp [results,h,hp',asAddr,Z44 hT hR hl]
def RetY (e:Ending) (U:Nat→Prop) (y:Nat) (Z':Tz) (E:Int) (w w':World):Prop:=∃ A,e= .returned (.agg A.toArray)∧AnE E A∧DxG U y Z' w w'
section
variable {w w1 w2 w3 w9 : World} {y ga : Nat} {U : Nat → Prop} {Z Z' : Tz}
theorem Z0e (h:Dx w U y Z) (hb:Below w.heap.size w w1) (z1:w.heap.size≤ga) (s:Stp (fun x=>x=ga) w1 w2):DxG U y Z w w2:=
 DxG.refl h (((Stp.of_below hb (fun _=>False)).next s (fun y e=> .inr (by omega))).below (Nat.le_refl _) (fun y e=>e.elim))
theorem Z11 (hU:∀ x,U x→x < w.heap.size) (hb:Below w.heap.size w w1) (G:DxG U y Z w1 w3) (z1:w.heap.size≤ga) (z2:ga < w1.heap.size) (s:Stp (fun x=>x=ga) w3 w9):DxG U y Z w w9:=by
 obtain⟨U',a1,a2,a3⟩:=G
 have hn:∀ x,U' x→¬x=ga:=fun x hx e=>by
  rcases a3 x hx with c | c
  · have:=hU x c;omega
  · omega
 refine⟨U',a1.step s hn,((Stp.of_below hb U).trans a2).next s (fun x e=> .inr (by omega)),fun x hx=>?_⟩
 rcases a3 x hx with c | c
 · exact .inl c
 · exact .inr ⟨Nat.le_trans hb.size c.1,Nat.lt_of_lt_of_le c.2 s.size⟩
end
set_option maxHeartbeats 2000000 in
theorem Z0b (E:Int) (w:World):Calls Tryz.prog 35 #[.int .i64 E] w fun e w'=>e= .returned (.agg (anC E 0 nilV nilV 0 0 0).toArray)∧Below w.heap.size w w':=by
 go_enter Tryz.func35,Tryz.ntmps35
 go_wp2_with (first
  | (refine Z02 (by rfl) (by rfl) ?_;intro g2 w2 z3 z4 r2 b2)
  | (refine Z03 (by rfl) _ _ (by rfl) g2 (by rfl) (anC E 0 nilV nilV 0 0 0) E (Z07 E) (by rfl) _ r2 rfl ?_;intro w9 r9 s9))
 exact bodyPost_ret (Z0a Z06 Tryz.results35 rfl r9 rfl) rfl ⟨rfl,((Stp.of_below b2 (fun _=>False)).next s9 (fun y e=> .inr (by omega))).below (Nat.le_refl _) (fun y e=>e.elim)⟩
set_option maxRecDepth 100000
set_option maxHeartbeats 8000000 in
theorem Zgy {w:World} {U:Nat→Prop} {y n:Nat} {Z:Tz} (h:Dx w U y Z) (hz:Z.ok n) (hn:n≤900) (o:Oz) (s:Sv) (hk:o.k=7) {E:Int} (hE:E≠0)
 (hP:∀ w',Below w.heap.size w w'→Calls Tryz.prog 66 #[.pointer (some ⟨y,0,none⟩), .string (str o.p), .int .i64 41] w' fun e u=>(∃ d t,e= .returned (.tuple #[.int .i64 d, .string t, .int .i64 E]))∧Below w'.heap.size w' u):
 Calls Tryz.prog 31 #[.pointer (some ⟨y,0,none⟩), .agg (opC o s).toArray] w fun e w'=>RetY e U y Z E w w':=by
 have qE:(E != 0)=true:=by simpa using hE
 go_enter Tryz.func31,Tryz.ntmps31
 go_wp2_with (first
  | (refine Z05 (by rfl) _ (by rfl) o s (by rfl) ?_;intro g1 w1 z1 z2 r1 b1
     have Bc:=b1
     have v1:=b1.size
     try clear c10
     try clear c11
     have c10:=r1.cell 0 _ rfl
     have c11:=r1.cell 1 _ rfl
     try rw [hk]at c10)
  | (refine Z02 (by rfl) (by rfl) ?_;intro g2 w2 z3 z4 r2 b2
     replace Bc:=Z00q Bc b2 (Nat.le_refl _)
     have v2:=b2.size
     try (replace r1:=r1.later b2)
     try (replace r2:=r2.later b2)
     try clear c10
     try clear c11
     have c10:=r1.cell 0 _ rfl
     have c11:=r1.cell 1 _ rfl
     try rw [hk]at c10)
  | (go_at_call 66;refine(hP _ Bc).mono ?_;clear hP;rintro e wp ⟨⟨dd,tt,rfl⟩,bp⟩
     replace Bc:=Z00q Bc bp (Nat.le_refl _)
     have vp:=bp.size
     try (replace r1:=r1.later bp)
     try (replace r2:=r2.later bp)
     try clear c10
     try clear c11
     have c10:=r1.cell 0 _ rfl
     have c11:=r1.cell 1 _ rfl
     try rw [hk]at c10)
  | (go_at_call 35;refine(Z0b _ _).mono ?_;rintro e wf ⟨rfl,bf⟩
     replace Bc:=Z00q Bc bf (Nat.le_refl _)
     replace r2:=r2.later bf)
  | (refine Z03 (by rfl) _ _ (by rfl) g2 (by rfl) (anC E 0 nilV nilV 0 0 0) E (Z07 E) (by rfl) _ r2 rfl ?_;intro w9 r9 s9))
 exact bodyPost_ret (Z0a Z06 Tryz.results31 rfl r9 rfl) rfl ⟨anC E 0 nilV nilV 0 0 0,rfl,Z07 E,Z0e h Bc (by omega) s9⟩
set_option maxHeartbeats 8000000 in
theorem Zgz {w:World} {U:Nat→Prop} {y n:Nat} {Z:Tz} (h:Dx w U y Z) (hz:Z.ok n) (hn:n≤900) (o:Oz) (s:Sv) (hk:o.k=7) {D i:Int} {a:List UInt8} (hi:i≠0)
 (hP:∀ w',Below w.heap.size w w'→Calls Tryz.prog 66 #[.pointer (some ⟨y,0,none⟩), .string (str o.p), .int .i64 41] w' fun e u=>e= .returned (.tuple #[.int .i64 D, .string (str a), .int .i64 0])∧Below w'.heap.size w' u)
 (hF:∀ w',Below w.heap.size w w'→Calls Tryz.prog 67 #[.pointer (some ⟨y,0,none⟩), .int .i64 D, .string (str a)] w' fun e u=>e= .returned (.int .i64 i)∧w'=u):
 Calls Tryz.prog 31 #[.pointer (some ⟨y,0,none⟩), .agg (opC o s).toArray] w fun e w'=>RetY e U y Z 41 w w':=by
 have qi:(i != 0)=true:=by simpa using hi
 go_enter Tryz.func31,Tryz.ntmps31
 go_wp2_with (first
  | (refine Z05 (by rfl) _ (by rfl) o s (by rfl) ?_;intro g1 w1 z1 z2 r1 b1
     have Bc:=b1
     have v1:=b1.size
     try clear c10
     try clear c11
     have c10:=r1.cell 0 _ rfl
     have c11:=r1.cell 1 _ rfl
     try rw [hk]at c10)
  | (refine Z02 (by rfl) (by rfl) ?_;intro g2 w2 z3 z4 r2 b2
     replace Bc:=Z00q Bc b2 (Nat.le_refl _)
     have v2:=b2.size
     try (replace r1:=r1.later b2)
     try (replace r2:=r2.later b2)
     try clear c10
     try clear c11
     have c10:=r1.cell 0 _ rfl
     have c11:=r1.cell 1 _ rfl
     try rw [hk]at c10)
  | (go_at_call 66;refine(hP _ Bc).mono ?_;clear hP;rintro e wp ⟨rfl,bp⟩
     replace Bc:=Z00q Bc bp (Nat.le_refl _)
     have vp:=bp.size
     try (replace r1:=r1.later bp)
     try (replace r2:=r2.later bp)
     try clear c10
     try clear c11
     have c10:=r1.cell 0 _ rfl
     have c11:=r1.cell 1 _ rfl
     try rw [hk]at c10)
  | (go_at_call 67;refine(hF _ Bc).mono ?_;clear hF;rintro e u ⟨rfl,rfl⟩)
  | (go_at_call 35;refine(Z0b _ _).mono ?_;rintro e wf ⟨rfl,bf⟩
     replace Bc:=Z00q Bc bf (Nat.le_refl _)
     replace r2:=r2.later bf)
  | (refine Z03 (by rfl) _ _ (by rfl) g2 (by rfl) (anC 41 0 nilV nilV 0 0 0) 41 (Z07 41) (by rfl) _ r2 rfl ?_;intro w9 r9 s9))
 exact bodyPost_ret (Z0a Z06 Tryz.results31 rfl r9 rfl) rfl ⟨anC 41 0 nilV nilV 0 0 0,rfl,Z07 41,Z0e h Bc (by omega) s9⟩
set_option maxHeartbeats 8000000 in
theorem Zh0 {w:World} {U:Nat→Prop} {y n:Nat} {Z:Tz} (h:Dx w U y Z) (hz:Z.ok n) (hn:n≤900) (o:Oz) (s:Sv) (hk:o.k=7) {D T:Int} {a:List UInt8} {Z':Tz}
 (hP:∀ w',Below w.heap.size w w'→Calls Tryz.prog 66 #[.pointer (some ⟨y,0,none⟩), .string (str o.p), .int .i64 41] w' fun e u=>e= .returned (.tuple #[.int .i64 D, .string (str a), .int .i64 0])∧Below w'.heap.size w' u)
 (hF:∀ w',Below w.heap.size w w'→Calls Tryz.prog 67 #[.pointer (some ⟨y,0,none⟩), .int .i64 D, .string (str a)] w' fun e u=>e= .returned (.int .i64 0)∧w'=u)
 (hM:∀ w',Below w.heap.size w w'→Calls Tryz.prog 68 #[.pointer (some ⟨y,0,none⟩), .int .i64 D, .string (str a), .int .i64 2] w' fun e u=>e= .returned (.int .i64 T)∧DxG U y Z' w' u):
 Calls Tryz.prog 31 #[.pointer (some ⟨y,0,none⟩), .agg (opC o s).toArray] w fun e w'=>RetY e U y Z' 0 w w':=by
 have hU:=h.low
 go_enter Tryz.func31,Tryz.ntmps31
 go_wp2_with (first
  | (refine Z05 (by rfl) _ (by rfl) o s (by rfl) ?_;intro g1 w1 z1 z2 r1 b1
     have Bc:=b1
     have v1:=b1.size
     try clear c10
     try clear c11
     have c10:=r1.cell 0 _ rfl
     have c11:=r1.cell 1 _ rfl
     try rw [hk]at c10)
  | (refine Z02 (by rfl) (by rfl) ?_;intro g2 w2 z3 z4 r2 b2
     replace Bc:=Z00q Bc b2 (Nat.le_refl _)
     have v2:=b2.size
     try (replace r1:=r1.later b2)
     try (replace r2:=r2.later b2)
     try clear c10
     try clear c11
     have c10:=r1.cell 0 _ rfl
     have c11:=r1.cell 1 _ rfl
     try rw [hk]at c10)
  | (go_at_call 66;refine(hP _ Bc).mono ?_;clear hP;rintro e wp ⟨rfl,bp⟩
     replace Bc:=Z00q Bc bp (Nat.le_refl _)
     have vp:=bp.size
     try (replace r1:=r1.later bp)
     try (replace r2:=r2.later bp)
     try clear c10
     try clear c11
     have c10:=r1.cell 0 _ rfl
     have c11:=r1.cell 1 _ rfl
     try rw [hk]at c10)
  | (go_at_call 67;refine(hF _ Bc).mono ?_;clear hF;rintro e u ⟨rfl,rfl⟩)
  | (go_at_call 68;refine(hM _ Bc).mono ?_;rintro e wm ⟨rfl,Gm⟩
     replace r2:=r2.step Gm.stp (fun e=>by have:=hU g2 e;omega))
  | (refine Z03 (by rfl) _ _ (by rfl) g2 (by rfl) anZ 0 Z0c (by rfl) _ r2 rfl ?_;intro w9 r9 s9))
 exact bodyPost_ret (Z0a Z06 Tryz.results31 rfl r9 rfl) rfl ⟨anZ,rfl,Z0c,Z11 hU Bc Gm (by omega) (by omega) s9⟩
set_option maxRecDepth 100000
set_option maxHeartbeats 8000000 in
theorem Zh1 {w:World} {U:Nat→Prop} {y n:Nat} {Z:Tz} (h:Dx w U y Z) (hz:Z.ok n) (hn:n≤900) (o:Oz) (s:Sv) (hk:o.k=8) {E:Int} (hE:E≠0)
 (hP:∀ w',Below w.heap.size w w'→Calls Tryz.prog 66 #[.pointer (some ⟨y,0,none⟩), .string (str o.p), .int .i64 51] w' fun e u=>(∃ d t,e= .returned (.tuple #[.int .i64 d, .string t, .int .i64 E]))∧Below w'.heap.size w' u):
 Calls Tryz.prog 31 #[.pointer (some ⟨y,0,none⟩), .agg (opC o s).toArray] w fun e w'=>RetY e U y Z E w w':=by
 have qE:(E != 0)=true:=by simpa using hE
 go_enter Tryz.func31,Tryz.ntmps31
 go_wp2_with (first
  | (refine Z05 (by rfl) _ (by rfl) o s (by rfl) ?_;intro g1 w1 z1 z2 r1 b1
     have Bc:=b1
     have v1:=b1.size
     try clear c10
     try clear c11
     have c10:=r1.cell 0 _ rfl
     have c11:=r1.cell 1 _ rfl
     try rw [hk]at c10)
  | (refine Z02 (by rfl) (by rfl) ?_;intro g2 w2 z3 z4 r2 b2
     replace Bc:=Z00q Bc b2 (Nat.le_refl _)
     have v2:=b2.size
     try (replace r1:=r1.later b2)
     try (replace r2:=r2.later b2)
     try clear c10
     try clear c11
     have c10:=r1.cell 0 _ rfl
     have c11:=r1.cell 1 _ rfl
     try rw [hk]at c10)
  | (go_at_call 66;refine(hP _ Bc).mono ?_;clear hP;rintro e wp ⟨⟨dd,tt,rfl⟩,bp⟩
     replace Bc:=Z00q Bc bp (Nat.le_refl _)
     have vp:=bp.size
     try (replace r1:=r1.later bp)
     try (replace r2:=r2.later bp)
     try clear c10
     try clear c11
     have c10:=r1.cell 0 _ rfl
     have c11:=r1.cell 1 _ rfl
     try rw [hk]at c10)
  | (go_at_call 35;refine(Z0b _ _).mono ?_;rintro e wf ⟨rfl,bf⟩
     replace Bc:=Z00q Bc bf (Nat.le_refl _)
     replace r2:=r2.later bf)
  | (refine Z03 (by rfl) _ _ (by rfl) g2 (by rfl) (anC E 0 nilV nilV 0 0 0) E (Z07 E) (by rfl) _ r2 rfl ?_;intro w9 r9 s9))
 exact bodyPost_ret (Z0a Z06 Tryz.results31 rfl r9 rfl) rfl ⟨anC E 0 nilV nilV 0 0 0,rfl,Z07 E,Z0e h Bc (by omega) s9⟩
set_option maxHeartbeats 8000000 in
theorem Zh4 {w:World} {U:Nat→Prop} {y n:Nat} {Z:Tz} (h:Dx w U y Z) (hz:Z.ok n) (hn:n≤900) (o:Oz) (s:Sv) (hk:o.k=8) {D:Int} {a:List UInt8}
 (hP:∀ w',Below w.heap.size w w'→Calls Tryz.prog 66 #[.pointer (some ⟨y,0,none⟩), .string (str o.p), .int .i64 51] w' fun e u=>e= .returned (.tuple #[.int .i64 D, .string (str a), .int .i64 0])∧Below w'.heap.size w' u)
 (hF:∀ w',Below w.heap.size w w'→Calls Tryz.prog 67 #[.pointer (some ⟨y,0,none⟩), .int .i64 D, .string (str a)] w' fun e u=>e= .returned (.int .i64 0)∧w'=u):
 Calls Tryz.prog 31 #[.pointer (some ⟨y,0,none⟩), .agg (opC o s).toArray] w fun e w'=>RetY e U y Z 40 w w':=by
 go_enter Tryz.func31,Tryz.ntmps31
 go_wp2_with (first
  | (refine Z05 (by rfl) _ (by rfl) o s (by rfl) ?_;intro g1 w1 z1 z2 r1 b1
     have Bc:=b1
     have v1:=b1.size
     try clear c10
     try clear c11
     have c10:=r1.cell 0 _ rfl
     have c11:=r1.cell 1 _ rfl
     try rw [hk]at c10)
  | (refine Z02 (by rfl) (by rfl) ?_;intro g2 w2 z3 z4 r2 b2
     replace Bc:=Z00q Bc b2 (Nat.le_refl _)
     have v2:=b2.size
     try (replace r1:=r1.later b2)
     try (replace r2:=r2.later b2)
     try clear c10
     try clear c11
     have c10:=r1.cell 0 _ rfl
     have c11:=r1.cell 1 _ rfl
     try rw [hk]at c10)
  | (go_at_call 66;refine(hP _ Bc).mono ?_;clear hP;rintro e wp ⟨rfl,bp⟩
     replace Bc:=Z00q Bc bp (Nat.le_refl _)
     have vp:=bp.size
     try (replace r1:=r1.later bp)
     try (replace r2:=r2.later bp)
     try clear c10
     try clear c11
     have c10:=r1.cell 0 _ rfl
     have c11:=r1.cell 1 _ rfl
     try rw [hk]at c10)
  | (go_at_call 67;refine(hF _ Bc).mono ?_;clear hF;rintro e u ⟨rfl,rfl⟩)
  | (go_at_call 35;refine(Z0b _ _).mono ?_;rintro e wf ⟨rfl,bf⟩
     replace Bc:=Z00q Bc bf (Nat.le_refl _)
     replace r2:=r2.later bf)
  | (refine Z03 (by rfl) _ _ (by rfl) g2 (by rfl) (anC 40 0 nilV nilV 0 0 0) 40 (Z07 40) (by rfl) _ r2 rfl ?_;intro w9 r9 s9))
 exact bodyPost_ret (Z0a Z06 Tryz.results31 rfl r9 rfl) rfl ⟨anC 40 0 nilV nilV 0 0 0,rfl,Z07 40,Z0e h Bc (by omega) s9⟩
set_option maxHeartbeats 8000000 in
theorem Zh2 {w:World} {U:Nat→Prop} {y n:Nat} {Z:Tz} (h:Dx w U y Z) (hz:Z.ok n) (hn:n≤900) (o:Oz) (s:Sv) (hk:o.k=8) {D i:Int} {a:List UInt8} (hi:1≤i∧i.toNat < Z.N.length) (hk2:(Z.nd i).k=1)
 (hP:∀ w',Below w.heap.size w w'→Calls Tryz.prog 66 #[.pointer (some ⟨y,0,none⟩), .string (str o.p), .int .i64 51] w' fun e u=>e= .returned (.tuple #[.int .i64 D, .string (str a), .int .i64 0])∧Below w'.heap.size w' u)
 (hF:∀ w',Below w.heap.size w w'→Calls Tryz.prog 67 #[.pointer (some ⟨y,0,none⟩), .int .i64 D, .string (str a)] w' fun e u=>e= .returned (.int .i64 i)∧w'=u):
 Calls Tryz.prog 31 #[.pointer (some ⟨y,0,none⟩), .agg (opC o s).toArray] w fun e w'=>RetY e U y Z 42 w w':=by
 have hU:=h.low
 obtain⟨fb,r,c,A,F,sd,sn,H,hUU⟩:=h
 obtain⟨ki,rfl⟩:∃ ki:Nat,i=(ki:Int):=⟨i.toNat,by omega⟩
 have hik:ki < Z.N.length:=by simpa using hi.2
 have a7:(ki:Int) < (Z.N.length:Int):=by omega
 have a6:(0:Int)≤(ki:Int):=by omega
 have qi:((ki:Int)==0)=false:=by simp;omega
 have qi2:((ki:Int) != 0)=true:=by simp;omega
 go_enter Tryz.func31,Tryz.ntmps31
 go_wp2_with (first
  | (refine Z05 (by rfl) _ (by rfl) o s (by rfl) ?_;intro g1 w1 z1 z2 r1 b1
     have Bc:=b1
     have v1:=b1.size
     try clear c10
     try clear c11
     have c10:=r1.cell 0 _ rfl
     have c11:=r1.cell 1 _ rfl
     try rw [hk]at c10)
  | (refine Z02 (by rfl) (by rfl) ?_;intro g2 w2 z3 z4 r2 b2
     replace Bc:=Z00q Bc b2 (Nat.le_refl _)
     have v2:=b2.size
     try (replace r1:=r1.later b2)
     try (replace r2:=r2.later b2)
     try clear c10
     try clear c11
     have c10:=r1.cell 0 _ rfl
     have c11:=r1.cell 1 _ rfl
     try rw [hk]at c10)
  | (go_at_call 66;refine(hP _ Bc).mono ?_;clear hP;rintro e wp ⟨rfl,bp⟩
     replace Bc:=Z00q Bc bp (Nat.le_refl _)
     have vp:=bp.size
     try (replace r1:=r1.later bp)
     try (replace r2:=r2.later bp)
     try clear c10
     try clear c11
     have c10:=r1.cell 0 _ rfl
     have c11:=r1.cell 1 _ rfl
     try rw [hk]at c10)
  | (go_at_call 67;refine(hF _ Bc).mono ?_;clear hF;rintro e u ⟨rfl,rfl⟩
     have q0:=(H.later Bc).c0
     have qk:=(H.later Bc).nk hik
     have qn:=(H.later Bc).nnm hik
     rw [hk2]at qk)
  | (go_at_call 35;refine(Z0b _ _).mono ?_;rintro e wf ⟨rfl,bf⟩
     replace Bc:=Z00q Bc bf (Nat.le_refl _)
     replace r2:=r2.later bf)
  | (refine Z03 (by rfl) _ _ (by rfl) g2 (by rfl) (anC 42 0 nilV nilV 0 0 0) 42 (Z07 42) (by rfl) _ r2 rfl ?_;intro w9 r9 s9))
 exact bodyPost_ret (Z0a Z06 Tryz.results31 rfl r9 rfl) rfl ⟨anC 42 0 nilV nilV 0 0 0,rfl,Z07 42,(Z0e ⟨fb,r,c,A,F,sd,sn,H,hUU⟩ Bc (by omega) s9)⟩
set_option maxHeartbeats 8000000 in
theorem Zh3 {w:World} {U:Nat→Prop} {y n:Nat} {Z:Tz} (h:Dx w U y Z) (hz:Z.ok n) (hn:n≤900) (o:Oz) (s:Sv) (hk:o.k=8) {D i:Int} {a:List UInt8} (hi:1≤i∧i.toNat < Z.N.length) (hk2:(Z.nd i).k=2) (hnm:(Z.nd i).nm≠ [])
 (hP:∀ w',Below w.heap.size w w'→Calls Tryz.prog 66 #[.pointer (some ⟨y,0,none⟩), .string (str o.p), .int .i64 51] w' fun e u=>e= .returned (.tuple #[.int .i64 D, .string (str a), .int .i64 0])∧Below w'.heap.size w' u)
 (hF:∀ w',Below w.heap.size w w'→Calls Tryz.prog 67 #[.pointer (some ⟨y,0,none⟩), .int .i64 D, .string (str a)] w' fun e u=>e= .returned (.int .i64 i)∧w'=u):
 Calls Tryz.prog 31 #[.pointer (some ⟨y,0,none⟩), .agg (opC o s).toArray] w fun e w'=>RetY e U y Z 44 w w':=by
 have hU:=h.low
 obtain⟨fb,r,c,A,F,sd,sn,H,hUU⟩:=h
 obtain⟨ki,rfl⟩:∃ ki:Nat,i=(ki:Int):=⟨i.toNat,by omega⟩
 have hik:ki < Z.N.length:=by simpa using hi.2
 have a7:(ki:Int) < (Z.N.length:Int):=by omega
 have a6:(0:Int)≤(ki:Int):=by omega
 have qi:((ki:Int)==0)=false:=by simp;omega
 have qi2:((ki:Int) != 0)=true:=by simp;omega
 go_enter Tryz.func31,Tryz.ntmps31
 go_wp2_with (first
  | (refine Z05 (by rfl) _ (by rfl) o s (by rfl) ?_;intro g1 w1 z1 z2 r1 b1
     have Bc:=b1
     have v1:=b1.size
     try clear c10
     try clear c11
     have c10:=r1.cell 0 _ rfl
     have c11:=r1.cell 1 _ rfl
     try rw [hk]at c10)
  | (refine Z02 (by rfl) (by rfl) ?_;intro g2 w2 z3 z4 r2 b2
     replace Bc:=Z00q Bc b2 (Nat.le_refl _)
     have v2:=b2.size
     try (replace r1:=r1.later b2)
     try (replace r2:=r2.later b2)
     try clear c10
     try clear c11
     have c10:=r1.cell 0 _ rfl
     have c11:=r1.cell 1 _ rfl
     try rw [hk]at c10)
  | (go_at_call 66;refine(hP _ Bc).mono ?_;clear hP;rintro e wp ⟨rfl,bp⟩
     replace Bc:=Z00q Bc bp (Nat.le_refl _)
     have vp:=bp.size
     try (replace r1:=r1.later bp)
     try (replace r2:=r2.later bp)
     try clear c10
     try clear c11
     have c10:=r1.cell 0 _ rfl
     have c11:=r1.cell 1 _ rfl
     try rw [hk]at c10)
  | (go_at_call 67;refine(hF _ Bc).mono ?_;clear hF;rintro e u ⟨rfl,rfl⟩
     have q0:=(H.later Bc).c0
     have qk:=(H.later Bc).nk hik
     have qn:=(H.later Bc).nnm hik
     rw [hk2]at qk
     have hln:=(H.nm ki hik).1.len
     have hl2:0 < (sn ki).n:=by rw [← hln];exact List.length_pos_iff.2 hnm
     have hl3:(0:Int) < ((sn ki).n:Int):=by omega)
  | (go_at_call 35;refine(Z0b _ _).mono ?_;rintro e wf ⟨rfl,bf⟩
     replace Bc:=Z00q Bc bf (Nat.le_refl _)
     replace r2:=r2.later bf)
  | (refine Z03 (by rfl) _ _ (by rfl) g2 (by rfl) (anC 44 0 nilV nilV 0 0 0) 44 (Z07 44) (by rfl) _ r2 rfl ?_;intro w9 r9 s9))
 exact bodyPost_ret (Z0a Z06 Tryz.results31 rfl r9 rfl) rfl ⟨anC 44 0 nilV nilV 0 0 0,rfl,Z07 44,(Z0e ⟨fb,r,c,A,F,sd,sn,H,hUU⟩ Bc (by omega) s9)⟩
set_option maxHeartbeats 8000000 in
theorem Zh5 {w:World} {U:Nat→Prop} {y n:Nat} {Z:Tz} (h:Dx w U y Z) (hz:Z.ok n) (hn:n≤900) (o:Oz) (s:Sv) (hk:o.k=8) {D i:Int} {a:List UInt8} (hi:1≤i∧i.toNat < Z.N.length) (hk2:(Z.nd i).k=2) (hnm:(Z.nd i).nm= []) {Z1 Z2:Tz}
 (hP:∀ w',Below w.heap.size w w'→Calls Tryz.prog 66 #[.pointer (some ⟨y,0,none⟩), .string (str o.p), .int .i64 51] w' fun e u=>e= .returned (.tuple #[.int .i64 D, .string (str a), .int .i64 0])∧Below w'.heap.size w' u)
 (hF:∀ w',Below w.heap.size w w'→Calls Tryz.prog 67 #[.pointer (some ⟨y,0,none⟩), .int .i64 D, .string (str a)] w' fun e u=>e= .returned (.int .i64 i)∧w'=u)
 (hPut:∀ w',Below w.heap.size w w'→Calls Tryz.prog 75 #[.pointer (some ⟨y,0,none⟩), .int .i64 D, .string (str a), .int .i64 0] w' fun e u=>e= .returned (.tuple #[])∧DxG U y Z1 w' u)
 (hLess:∀ U' w',Dx w' U' y Z1→Calls Tryz.prog 76 #[.pointer (some ⟨y,0,none⟩), .int .i64 i] w' fun e u=>e= .returned (.tuple #[])∧DxG U' y Z2 w' u):
 Calls Tryz.prog 31 #[.pointer (some ⟨y,0,none⟩), .agg (opC o s).toArray] w fun e w'=>RetY e U y Z2 0 w w':=by
 have hU:=h.low
 obtain⟨fb,r,c,A,F,sd,sn,H,hUU⟩:=h
 obtain⟨ki,rfl⟩:∃ ki:Nat,i=(ki:Int):=⟨i.toNat,by omega⟩
 have hik:ki < Z.N.length:=by simpa using hi.2
 have a7:(ki:Int) < (Z.N.length:Int):=by omega
 have a6:(0:Int)≤(ki:Int):=by omega
 have qi:((ki:Int)==0)=false:=by simp;omega
 have qi2:((ki:Int) != 0)=true:=by simp;omega
 go_enter Tryz.func31,Tryz.ntmps31
 go_wp2_with (first
  | (refine Z05 (by rfl) _ (by rfl) o s (by rfl) ?_;intro g1 w1 z1 z2 r1 b1
     have Bc:=b1
     have v1:=b1.size
     try clear c10
     try clear c11
     have c10:=r1.cell 0 _ rfl
     have c11:=r1.cell 1 _ rfl
     try rw [hk]at c10)
  | (refine Z02 (by rfl) (by rfl) ?_;intro g2 w2 z3 z4 r2 b2
     replace Bc:=Z00q Bc b2 (Nat.le_refl _)
     have v2:=b2.size
     try (replace r1:=r1.later b2)
     try (replace r2:=r2.later b2)
     try clear c10
     try clear c11
     have c10:=r1.cell 0 _ rfl
     have c11:=r1.cell 1 _ rfl
     try rw [hk]at c10)
  | (go_at_call 66;refine(hP _ Bc).mono ?_;clear hP;rintro e wp ⟨rfl,bp⟩
     replace Bc:=Z00q Bc bp (Nat.le_refl _)
     have vp:=bp.size
     try (replace r1:=r1.later bp)
     try (replace r2:=r2.later bp)
     try clear c10
     try clear c11
     have c10:=r1.cell 0 _ rfl
     have c11:=r1.cell 1 _ rfl
     try rw [hk]at c10)
  | (go_at_call 67;refine(hF _ Bc).mono ?_;clear hF;rintro e u ⟨rfl,rfl⟩
     have q0:=(H.later Bc).c0
     have qk:=(H.later Bc).nk hik
     have qn:=(H.later Bc).nnm hik
     rw [hk2]at qk
     have hln:=(H.nm ki hik).1.len
     have hl2:(sn ki).n=0:=by rw [← hln];exact List.length_eq_zero_iff.2 hnm)
  | (go_at_call 75;refine(hPut _ Bc).mono ?_;rintro e wm ⟨rfl,Gm⟩
     obtain⟨Um,tm,sm,em⟩:=Gm
     have nU:¬Um g2:=fun e=>by
      rcases em g2 e with c | c
      · have:=hU g2 c;omega
      · have:=r2.lt;omega
     replace r2:=r2.step sm (fun e=>by have:=hU g2 e;omega))
  | (go_at_call 76;refine(hLess _ _ tm).mono ?_;rintro e wl ⟨rfl,Gl⟩
     replace r2:=r2.step Gl.stp nU
     have GG:=DxG.join sm em Gl)
  | (refine Z03 (by rfl) _ _ (by rfl) g2 (by rfl) anZ 0 Z0c (by rfl) _ r2 rfl ?_;intro w9 r9 s9))
 exact bodyPost_ret (Z0a Z06 Tryz.results31 rfl r9 rfl) rfl ⟨anZ,rfl,Z0c,Z11 hU Bc GG (by omega) (by omega) s9⟩
set_option maxRecDepth 100000
set_option maxHeartbeats 8000000 in
theorem Zfe {w:World} {U:Nat→Prop} {y n:Nat} {Z:Tz} (h:Dx w U y Z) (hz:Z.ok n) (hn:n≤900) (o:Oz) (s:Sv) (hk:o.k=10) {E:Int} (hE:E≠0)
 (hP:∀ w',Below w.heap.size w w'→Calls Tryz.prog 66 #[.pointer (some ⟨y,0,none⟩), .string (str o.p), .int .i64 43] w' fun e u=>(∃ d t,e= .returned (.tuple #[.int .i64 d, .string t, .int .i64 E]))∧Below w'.heap.size w' u):
 Calls Tryz.prog 31 #[.pointer (some ⟨y,0,none⟩), .agg (opC o s).toArray] w fun e w'=>RetY e U y Z E w w':=by
 have qE:(E != 0)=true:=by simpa using hE
 go_enter Tryz.func31,Tryz.ntmps31
 go_wp2_with (first
  | (refine Z05 (by rfl) _ (by rfl) o s (by rfl) ?_;intro g1 w1 z1 z2 r1 b1
     have Bc:=b1
     have v1:=b1.size
     try clear c10
     try clear c11
     have c10:=r1.cell 0 _ rfl
     have c11:=r1.cell 1 _ rfl
     try rw [hk]at c10)
  | (refine Z02 (by rfl) (by rfl) ?_;intro g2 w2 z3 z4 r2 b2
     replace Bc:=Z00q Bc b2 (Nat.le_refl _)
     have v2:=b2.size
     try (replace r1:=r1.later b2)
     try (replace r2:=r2.later b2)
     try clear c10
     try clear c11
     have c10:=r1.cell 0 _ rfl
     have c11:=r1.cell 1 _ rfl
     try rw [hk]at c10)
  | (go_at_call 66;refine(hP _ Bc).mono ?_;clear hP;rintro e wp ⟨⟨dd,tt,rfl⟩,bp⟩
     replace Bc:=Z00q Bc bp (Nat.le_refl _)
     have vp:=bp.size
     try (replace r1:=r1.later bp)
     try (replace r2:=r2.later bp)
     try clear c10
     try clear c11
     have c10:=r1.cell 0 _ rfl
     have c11:=r1.cell 1 _ rfl
     try rw [hk]at c10)
  | (go_at_call 35;refine(Z0b _ _).mono ?_;rintro e wf ⟨rfl,bf⟩
     replace Bc:=Z00q Bc bf (Nat.le_refl _)
     replace r2:=r2.later bf)
  | (refine Z03 (by rfl) _ _ (by rfl) g2 (by rfl) (anC E 0 nilV nilV 0 0 0) E (Z07 E) (by rfl) _ r2 rfl ?_;intro w9 r9 s9))
 exact bodyPost_ret (Z0a Z06 Tryz.results31 rfl r9 rfl) rfl ⟨anC E 0 nilV nilV 0 0 0,rfl,Z07 E,Z0e h Bc (by omega) s9⟩
set_option maxHeartbeats 8000000 in
theorem Zff {w:World} {U:Nat→Prop} {y n:Nat} {Z:Tz} (h:Dx w U y Z) (hz:Z.ok n) (hn:n≤900) (o:Oz) (s:Sv) (hk:o.k=10) {D:Int} {a:List UInt8}
 (hP:∀ w',Below w.heap.size w w'→Calls Tryz.prog 66 #[.pointer (some ⟨y,0,none⟩), .string (str o.p), .int .i64 43] w' fun e u=>e= .returned (.tuple #[.int .i64 D, .string (str a), .int .i64 0])∧Below w'.heap.size w' u)
 (hF:∀ w',Below w.heap.size w w'→Calls Tryz.prog 67 #[.pointer (some ⟨y,0,none⟩), .int .i64 D, .string (str a)] w' fun e u=>e= .returned (.int .i64 0)∧w'=u):
 Calls Tryz.prog 31 #[.pointer (some ⟨y,0,none⟩), .agg (opC o s).toArray] w fun e w'=>RetY e U y Z 40 w w':=by
 go_enter Tryz.func31,Tryz.ntmps31
 go_wp2_with (first
  | (refine Z05 (by rfl) _ (by rfl) o s (by rfl) ?_;intro g1 w1 z1 z2 r1 b1
     have Bc:=b1
     have v1:=b1.size
     try clear c10
     try clear c11
     have c10:=r1.cell 0 _ rfl
     have c11:=r1.cell 1 _ rfl
     try rw [hk]at c10)
  | (refine Z02 (by rfl) (by rfl) ?_;intro g2 w2 z3 z4 r2 b2
     replace Bc:=Z00q Bc b2 (Nat.le_refl _)
     have v2:=b2.size
     try (replace r1:=r1.later b2)
     try (replace r2:=r2.later b2)
     try clear c10
     try clear c11
     have c10:=r1.cell 0 _ rfl
     have c11:=r1.cell 1 _ rfl
     try rw [hk]at c10)
  | (go_at_call 66;refine(hP _ Bc).mono ?_;clear hP;rintro e wp ⟨rfl,bp⟩
     replace Bc:=Z00q Bc bp (Nat.le_refl _)
     have vp:=bp.size
     try (replace r1:=r1.later bp)
     try (replace r2:=r2.later bp)
     try clear c10
     try clear c11
     have c10:=r1.cell 0 _ rfl
     have c11:=r1.cell 1 _ rfl
     try rw [hk]at c10)
  | (go_at_call 67;refine(hF _ Bc).mono ?_;clear hF;rintro e u ⟨rfl,rfl⟩)
  | (go_at_call 35;refine(Z0b _ _).mono ?_;rintro e wf ⟨rfl,bf⟩
     replace Bc:=Z00q Bc bf (Nat.le_refl _)
     replace r2:=r2.later bf)
  | (refine Z03 (by rfl) _ _ (by rfl) g2 (by rfl) (anC 40 0 nilV nilV 0 0 0) 40 (Z07 40) (by rfl) _ r2 rfl ?_;intro w9 r9 s9))
 exact bodyPost_ret (Z0a Z06 Tryz.results31 rfl r9 rfl) rfl ⟨anC 40 0 nilV nilV 0 0 0,rfl,Z07 40,Z0e h Bc (by omega) s9⟩
set_option maxHeartbeats 8000000 in
theorem Zfd {w:World} {U:Nat→Prop} {y n:Nat} {Z:Tz} (h:Dx w U y Z) (hz:Z.ok n) (hn:n≤900) (o:Oz) (s:Sv) (hk:o.k=10) {D i:Int} {a:List UInt8} (hi:1≤i∧i.toNat < Z.N.length) (hk2:(Z.nd i).k=2)
 (hP:∀ w',Below w.heap.size w w'→Calls Tryz.prog 66 #[.pointer (some ⟨y,0,none⟩), .string (str o.p), .int .i64 43] w' fun e u=>e= .returned (.tuple #[.int .i64 D, .string (str a), .int .i64 0])∧Below w'.heap.size w' u)
 (hF:∀ w',Below w.heap.size w w'→Calls Tryz.prog 67 #[.pointer (some ⟨y,0,none⟩), .int .i64 D, .string (str a)] w' fun e u=>e= .returned (.int .i64 i)∧w'=u):
 Calls Tryz.prog 31 #[.pointer (some ⟨y,0,none⟩), .agg (opC o s).toArray] w fun e w'=>RetY e U y Z 43 w w':=by
 have hU:=h.low
 obtain⟨fb,r,c,A,F,sd,sn,H,hUU⟩:=h
 obtain⟨ki,rfl⟩:∃ ki:Nat,i=(ki:Int):=⟨i.toNat,by omega⟩
 have hik:ki < Z.N.length:=by simpa using hi.2
 have a7:(ki:Int) < (Z.N.length:Int):=by omega
 have a6:(0:Int)≤(ki:Int):=by omega
 have qi:((ki:Int)==0)=false:=by simp;omega
 have qi2:((ki:Int) != 0)=true:=by simp;omega
 go_enter Tryz.func31,Tryz.ntmps31
 go_wp2_with (first
  | (refine Z05 (by rfl) _ (by rfl) o s (by rfl) ?_;intro g1 w1 z1 z2 r1 b1
     have Bc:=b1
     have v1:=b1.size
     try clear c10
     try clear c11
     have c10:=r1.cell 0 _ rfl
     have c11:=r1.cell 1 _ rfl
     try rw [hk]at c10)
  | (refine Z02 (by rfl) (by rfl) ?_;intro g2 w2 z3 z4 r2 b2
     replace Bc:=Z00q Bc b2 (Nat.le_refl _)
     have v2:=b2.size
     try (replace r1:=r1.later b2)
     try (replace r2:=r2.later b2)
     try clear c10
     try clear c11
     have c10:=r1.cell 0 _ rfl
     have c11:=r1.cell 1 _ rfl
     try rw [hk]at c10)
  | (go_at_call 66;refine(hP _ Bc).mono ?_;clear hP;rintro e wp ⟨rfl,bp⟩
     replace Bc:=Z00q Bc bp (Nat.le_refl _)
     have vp:=bp.size
     try (replace r1:=r1.later bp)
     try (replace r2:=r2.later bp)
     try clear c10
     try clear c11
     have c10:=r1.cell 0 _ rfl
     have c11:=r1.cell 1 _ rfl
     try rw [hk]at c10)
  | (go_at_call 67;refine(hF _ Bc).mono ?_;clear hF;rintro e u ⟨rfl,rfl⟩
     have q0:=(H.later Bc).c0
     have qk:=(H.later Bc).nk hik
     have qn:=(H.later Bc).nnm hik
     rw [hk2]at qk)
  | (go_at_call 35;refine(Z0b _ _).mono ?_;rintro e wf ⟨rfl,bf⟩
     replace Bc:=Z00q Bc bf (Nat.le_refl _)
     replace r2:=r2.later bf)
  | (refine Z03 (by rfl) _ _ (by rfl) g2 (by rfl) (anC 43 0 nilV nilV 0 0 0) 43 (Z07 43) (by rfl) _ r2 rfl ?_;intro w9 r9 s9))
 exact bodyPost_ret (Z0a Z06 Tryz.results31 rfl r9 rfl) rfl ⟨anC 43 0 nilV nilV 0 0 0,rfl,Z07 43,(Z0e ⟨fb,r,c,A,F,sd,sn,H,hUU⟩ Bc (by omega) s9)⟩
set_option maxHeartbeats 8000000 in
theorem Zfg {w:World} {U:Nat→Prop} {y n:Nat} {Z:Tz} (h:Dx w U y Z) (hz:Z.ok n) (hn:n≤900) (o:Oz) (s:Sv) (hk:o.k=10) {D i:Int} {a:List UInt8} (hi:1≤i∧i.toNat < Z.N.length) (hk2:(Z.nd i).k=1) {Z1 Z2:Tz}
 (hP:∀ w',Below w.heap.size w w'→Calls Tryz.prog 66 #[.pointer (some ⟨y,0,none⟩), .string (str o.p), .int .i64 43] w' fun e u=>e= .returned (.tuple #[.int .i64 D, .string (str a), .int .i64 0])∧Below w'.heap.size w' u)
 (hF:∀ w',Below w.heap.size w w'→Calls Tryz.prog 67 #[.pointer (some ⟨y,0,none⟩), .int .i64 D, .string (str a)] w' fun e u=>e= .returned (.int .i64 i)∧w'=u)
 (hPut:∀ w',Below w.heap.size w w'→Calls Tryz.prog 75 #[.pointer (some ⟨y,0,none⟩), .int .i64 D, .string (str a), .int .i64 0] w' fun e u=>e= .returned (.tuple #[])∧DxG U y Z1 w' u)
 (hLess:∀ U' w',Dx w' U' y Z1→Calls Tryz.prog 76 #[.pointer (some ⟨y,0,none⟩), .int .i64 i] w' fun e u=>e= .returned (.tuple #[])∧DxG U' y Z2 w' u):
 Calls Tryz.prog 31 #[.pointer (some ⟨y,0,none⟩), .agg (opC o s).toArray] w fun e w'=>RetY e U y Z2 0 w w':=by
 have hU:=h.low
 obtain⟨fb,r,c,A,F,sd,sn,H,hUU⟩:=h
 obtain⟨ki,rfl⟩:∃ ki:Nat,i=(ki:Int):=⟨i.toNat,by omega⟩
 have hik:ki < Z.N.length:=by simpa using hi.2
 have a7:(ki:Int) < (Z.N.length:Int):=by omega
 have a6:(0:Int)≤(ki:Int):=by omega
 have qi:((ki:Int)==0)=false:=by simp;omega
 have qi2:((ki:Int) != 0)=true:=by simp;omega
 go_enter Tryz.func31,Tryz.ntmps31
 go_wp2_with (first
  | (refine Z05 (by rfl) _ (by rfl) o s (by rfl) ?_;intro g1 w1 z1 z2 r1 b1
     have Bc:=b1
     have v1:=b1.size
     try clear c10
     try clear c11
     have c10:=r1.cell 0 _ rfl
     have c11:=r1.cell 1 _ rfl
     try rw [hk]at c10)
  | (refine Z02 (by rfl) (by rfl) ?_;intro g2 w2 z3 z4 r2 b2
     replace Bc:=Z00q Bc b2 (Nat.le_refl _)
     have v2:=b2.size
     try (replace r1:=r1.later b2)
     try (replace r2:=r2.later b2)
     try clear c10
     try clear c11
     have c10:=r1.cell 0 _ rfl
     have c11:=r1.cell 1 _ rfl
     try rw [hk]at c10)
  | (go_at_call 66;refine(hP _ Bc).mono ?_;clear hP;rintro e wp ⟨rfl,bp⟩
     replace Bc:=Z00q Bc bp (Nat.le_refl _)
     have vp:=bp.size
     try (replace r1:=r1.later bp)
     try (replace r2:=r2.later bp)
     try clear c10
     try clear c11
     have c10:=r1.cell 0 _ rfl
     have c11:=r1.cell 1 _ rfl
     try rw [hk]at c10)
  | (go_at_call 67;refine(hF _ Bc).mono ?_;clear hF;rintro e u ⟨rfl,rfl⟩
     have q0:=(H.later Bc).c0
     have qk:=(H.later Bc).nk hik
     have qn:=(H.later Bc).nnm hik
     rw [hk2]at qk)
  | (go_at_call 75;refine(hPut _ Bc).mono ?_;rintro e wm ⟨rfl,Gm⟩
     obtain⟨Um,tm,sm,em⟩:=Gm
     have nU:¬Um g2:=fun e=>by
      rcases em g2 e with c | c
      · have:=hU g2 c;omega
      · have:=r2.lt;omega
     replace r2:=r2.step sm (fun e=>by have:=hU g2 e;omega))
  | (go_at_call 76;refine(hLess _ _ tm).mono ?_;rintro e wl ⟨rfl,Gl⟩
     replace r2:=r2.step Gl.stp nU
     have GG:=DxG.join sm em Gl)
  | (refine Z03 (by rfl) _ _ (by rfl) g2 (by rfl) anZ 0 Z0c (by rfl) _ r2 rfl ?_;intro w9 r9 s9))
 exact bodyPost_ret (Z0a Z06 Tryz.results31 rfl r9 rfl) rfl ⟨anZ,rfl,Z0c,Z11 hU Bc GG (by omega) (by omega) s9⟩
end Go.Proofs.YtdnjddpfcgginaaGreat
