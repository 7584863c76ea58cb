/-
  Texts of my own, joined: no statement is proved here.
-/
import Derived.Test.YtogdffonjhghcaaGreatDoorJbd
set_option linter.unusedSimpArgs false
set_option linter.unusedVariables false
namespace Go.Proofs.YtogdffonjhghcaaGreatDoor
open Go.ChangeShapes Go.WideShapes Go.ChangeAt Go.RowKit
def wS (is:List Int) (c:List Pt) (x:Int):Bool:=is.contains x||c.any fun q=>q.needs.contains x
theorem Zq0 (is:List Int) (c:List Pt) (p:Pt):wS is (c++ [p])=fun x=>wS is c x||p.needs.contains x:=by
 funext x
 unfold wS
 rw [List.any_append]
 simp [Bool.or_assoc]
theorem Zrm (is:List Int):wS is []=fun x=>false||is.contains x:=by funext x;simp [wS]
theorem Zbb (a b:Pt):meet a b=meet b a:=by
 unfold meet
 rw [show(a.at'==b.at')=(b.at'==a.at')from Bool.beq_comm,show(a.kind != b.kind)=(b.kind != a.kind)from bne_comm,Bool.and_comm (decide (a.off < b.off+(b.data.length:Int)))]
theorem Zfg {a b:Pt} (h:meet a b=true):a.at'=b.at':=by
 unfold meet at h
 simp only [Bool.and_eq_true,beq_iff_eq]at h
 exact h.1
theorem Zkr (is:List Int) (c:List Pt) (p:Pt):wnt is c p=(wS is c p.id||(!p.wr&&(wtP c p.at').any fun q=>meet q p)):=by
 unfold wnt wS
 rw [Bool.or_assoc]
 congr 1
 rw [Bool.eq_iff_iff]
 simp only [List.any_eq_true,Bool.or_eq_true,Bool.and_eq_true,Bool.not_eq_true']
 constructor
 · rintro ⟨q,hq,h | ⟨⟨h1,h2⟩,h3⟩⟩
   · exact .inl ⟨q,hq,h⟩
   · refine .inr ⟨h2,q,Z0y.2 ⟨hq,(Zfg h3).symm,h1⟩,?_⟩
     rw [Zbb];exact h3
 · rintro (⟨q,hq,h⟩ | ⟨h2,q,hq,h3⟩)
   · exact⟨q,hq, .inl h⟩
   · obtain⟨h4,h5,h6⟩:=Z0y.1 hq
     refine⟨q,h4, .inr ⟨⟨h6,h2⟩,?_⟩⟩
     rw [Zbb];exact h3
theorem Zg2 (is:List Int) (c:List Pt) (p:Pt):wnt is c.reverse p=wnt is c p:=by
 unfold wnt;rw [List.any_reverse]
def chS (is:List Int) (l:List Pt) {m:Nat} (c:List Pt) (x:Fin m):List Pt:=match l[x.1]? with
 | some p=>if wnt is c p then c++ [p]else c
 | none=>c
def chL (is:List Int) (l:List Pt) {m:Nat} (pre:List (Fin m)):List Pt:=pre.foldl (chS is l) []
theorem Zcf (is:List Int) (l:List Pt) {m:Nat} (pre:List (Fin m)) (x:Fin m):chL is l (pre++ [x])=chS is l (chL is l pre) x:=by unfold chL;rw [List.foldl_append];rfl
theorem Z7o {is:List Int} {l:List Pt} {m:Nat} {c:List Pt} {x:Fin m} {p:Pt} (h:l[x.1]? =some p) (hw:wnt is c p=true):chS is l c x=c++ [p]:=by unfold chS;rw [h];simp [hw]
theorem Zcg {is:List Int} {l:List Pt} {m:Nat} {c:List Pt} {x:Fin m} {p:Pt} (h:l[x.1]? =some p) (hw:wnt is c p=false):chS is l c x=c:=by unfold chS;rw [h];simp [hw]
theorem Zo8 {is:List Int} {l:List Pt} {m:Nat} {c:List Pt} (x:Fin m) (hc:∀ q ∈ c,q ∈ l):∀ q ∈ chS is l c x,q ∈ l:=by
 unfold chS
 cases h:l[x.1]? with
 | none=>exact hc
 | some p=>
   simp only
   split
   · intro q hq
     rcases List.mem_append.1 hq with hq | hq
     · exact hc q hq
     · rw [List.mem_singleton.1 hq];exact List.mem_of_getElem? h
   · exact hc
theorem Zo7 {is:List Int} {l:List Pt} {m:Nat} {c:List Pt} (x:Fin m):(chS is l c x).length≤c.length+1:=by
 unfold chS
 cases h:l[x.1]? with
 | none=>simp
 | some p=>
   simp only
   split
   · simp
   · omega
theorem Z6y {is:List Int} {l:List Pt} {m:Nat} :∀ (pre:List (Fin m)) (c:List Pt),(∀ q ∈ c,q ∈ l)→(∀ q ∈ pre.foldl (chS is l) c,q ∈ l)∧(pre.foldl (chS is l) c).length≤c.length+pre.length
 | [],c,h=>⟨h,by simp⟩
 | x::r,c,h=>by
   have:=Z6y (is:=is) r (chS is l c x) (Zo8 x h)
   have h2:=Zo7 (is:=is) (l:=l) (c:=c) x
   refine⟨this.1,?_⟩
   have:=this.2
   simp only [List.foldl_cons,List.length_cons]
   omega
theorem Zo6 {is:List Int} {l:List Pt} {m:Nat} (pre:List (Fin m)):∀ q ∈ chL is l pre,q ∈ l:=(Z6y pre [] (fun q h=>by cases h)).1
theorem Zo5 {is:List Int} {l:List Pt} {m:Nat} (pre:List (Fin m)):(chL is l pre).length≤pre.length:=by
 have:=(Z6y (is:=is) (l:=l) pre [] (fun q h=>by cases h)).2
 rw [List.length_nil,Nat.zero_add]at this
 exact this
theorem Zf9 {is:List Int} {l:List Pt} (el:Nat→Fin l.length) (hel:∀ j,j < l.length→(el j).1=j):∀ d j,d+j=l.length→chL is l (bk el l.length j)=(nd is (l.drop j)).reverse
 | 0,j,h=>by
   obtain rfl:j=l.length:=by omega
   rw [Zi1,List.drop_length];rfl
 | d+1,j,h=>by
   have hj:j < l.length:=by omega
   rw [Zf3 el hj,Zcf,Zf9 el hel d (j+1) (by omega)]
   have hg:l[(el j).1]? =some l[j]:=by rw [hel j hj];exact List.getElem?_eq_getElem hj
   have hn:=Z2q (is:=is) (List.getElem?_eq_getElem hj)
   rw [hn]
   cases hw:wnt is (nd is (l.drop (j+1))) l[j]with
   | true=>
     rw [Z7o hg (by rw [Zg2];exact hw)]
     simp
   | false=>
     rw [Zcg hg (by rw [Zg2];exact hw)]
     simp
def shF (c:List Pt) (s:Int):Option Value:=if wtP c s= []then none else some (.agg (shC (shB (wtP c s)) (shK (wtP c s))).toArray)
theorem Zpl (c:List Pt) (s:Int):(shF c s).getD (.agg (shC 0 0).toArray)= .agg (shC (shB (wtP c s)) (shK (wtP c s))).toArray:=by
 unfold shF
 split
 · rename_i h;rw [h];rfl
 · rfl
theorem Zpm:shF []=fun _=>none:=by funext s;simp [shF,wtP]
theorem Zfs (c:List Pt) (p:Pt) (hp:p.wr=false):shF (c++ [p])=upd (shF c) p.at' (some (.agg (shC (shB (wtP c p.at'++ [p])) (shK (wtP c p.at'++ [p]))).toArray)):=by
 funext s
 unfold shF upd
 rw [Ze6 c p s hp]
 by_cases e:s=p.at'
 · subst e;simp
 · simp [e]
theorem Zmv (c:List Pt) (p:Pt) (hp:p.wr=true):shF (c++ [p])=shF c:=by
 funext s
 unfold shF
 have:wtP (c++ [p]) s=wtP c s:=by unfold wtP;rw [List.filter_append];simp [inS,hp]
 rw [this]
theorem Zmu (c:List Pt) (hc:∀ q ∈ c,fit q=true) (s:Int) (h:(shF c s).isSome=true):0≤s∧s < 2048:=by
 unfold shF at h
 split at h
 · cases h
 · rename_i hne
   obtain⟨q,hq⟩:=List.exists_mem_of_ne_nil _ hne
   obtain⟨h1,h2,_⟩:=Z0y.1 hq
   have:=Z13 (hc q h1)
   omega
set_option maxRecDepth 100000 in
set_option maxHeartbeats 2000000 in
theorem Z12 {w:World} {g mp mw:Nat} {f fw:Int→Option Value} {Z:GZ} {E F:Nat→Prop} (H:Gr w g mp mw f fw Z E F) (i:Int) (hi:wfi i) (hnl:∀ p ∈ Z.l,p.needs.length≤100000):
 Calls Tryz.prog 220 #[.pointer (some ⟨g,0,none⟩), .int .i64 i] w fun e w'=>∃ d n:Sv,e= .returned (.tuple #[.agg ((gt Z.l i).cs d n).toArray, .int .i64 (gE Z.l i)])∧PtM w' (Made w w') (gt Z.l i) d n∧Below w.heap.size w w':=by
 have t1:True:=trivial
 have t2:True:=trivial
 have t3:True:=trivial
 have t4:True:=trivial
 have t5:True:=trivial
 have t6:True:=trivial
 obtain⟨d4,n4,e4,m4,e5⟩:=H.look i
 have hdl:(gt Z.l i).data.length≤100000∧(gt Z.l i).needs.length≤100000:=by
  unfold gt
  cases hf:fnd Z.l i with
  | none=>exact⟨Nat.zero_le _,Nat.zero_le _⟩
  | some p=>
    have:=Z13 (H.ok.ft p (Z1r hf).1)
    exact⟨by simp only [Option.getD_some];omega,hnl p (Z1r hf).1⟩
 cases hh:has Z.l i with
 | false=>
   have eg:Hid (gt Z.l i=Pt.zero):=by
    show _=_
    unfold gt
    rw [Z7t]at hh
    cases hf:fnd Z.l i with
    | none=>rfl
    | some p=>rw [hf]at hh;cases hh
   have ee:Hid (gE Z.l i=5):=(by unfold gE;rw [hh];rfl:gE Z.l i=5)
   rw [hh]at e5
   go_enter Tryz.func220,Tryz.ntmps220
   go_wp2_with (first
    | (clear t1;refine Z0t (by rfl) (by rfl) ?_;intro g1 w1 a1 a2 r1 b1;have H1:=H.later b1;obtain⟨z0,z1,z2⟩:=H1.cells;have pm:=H1.pm)
    | (clear t2;refine Z1i 186 56 uPm _ zP (by rfl) _ _ (by rfl) mp f (by rfl) pm i (by rfl) hi _ e4 _ e5 ?_)
    | (clear t3;refine Z0t (by rfl) (by rfl) ?_;intro g2 w2 a3 a4 r2 b2)
    | (clear t4;refine Z0i (by rfl) _ _ (by rfl) g2 (by rfl) (gt Z.l i) d4 n4 (by rfl) _ r2 rfl ?_;intro w3 r3 s3;have r13:=(r1.later b2).step s3 (by omega))
    | (clear t5;refine Z0i (by rfl) _ _ (by rfl) g1 (by rfl) Pt.zero Sv.nil Sv.nil (by rfl) _ r13 rfl ?_;intro w4 r4 s4))
   refine bodyPost_ret (Zc5 srtP rfl rfl rfl r4 rfl) rfl ?_
   rw [eg.out,ee.out]
   exact⟨Sv.nil,Sv.nil,rfl,PtM.zero _ _,(((Stp.of_below (Z01 b1 b2 (Nat.le_refl _)) (fun _=>False)).next s3 (fun x e=> .inr (by have:=b1.size;omega))).next s4 (fun x e=> .inr (by omega))).below (Nat.le_refl _) (fun x e=>e.elim)⟩
 | true=>
   have ee:Hid (gE Z.l i=0):=(by unfold gE;rw [hh];rfl:gE Z.l i=0)
   rw [hh]at e5
   generalize gt Z.l i=p at *
   go_enter Tryz.func220,Tryz.ntmps220
   go_wp2_with (first
    | (clear t1;refine Z0t (by rfl) (by rfl) ?_;intro g1 w1 a1 a2 r1 b1;have H1:=H.later b1;obtain⟨z0,z1,z2⟩:=H1.cells;have pm:=H1.pm)
    | (clear t2;refine Z1i 186 56 uPm _ zP (by rfl) _ _ (by rfl) mp f (by rfl) pm i (by rfl) hi _ e4 _ e5 ?_)
    | (clear t3;refine Z0t (by rfl) (by rfl) ?_;intro g2 w2 a3 a4 r2 b2)
    | (clear t4;refine Z0i (by rfl) _ _ (by rfl) g2 (by rfl) p d4 n4 (by rfl) _ r2 rfl ?_;intro w3 r3 s3;have r13:=(r1.later b2).step s3 (by omega)
       have B3:Below w.heap.size w w3:=((Stp.of_below (Z01 b1 b2 (Nat.le_refl _)) (fun _=>False)).next s3 (fun x e=> .inr (by have:=b1.size;omega))).below (Nat.le_refl _) (fun x e=>e.elim)
       have m3:=m4.later B3)
    | (clear t5;refine Z0c (by rfl) _ (by rfl) g2 (by rfl) p d4 n4 r3 ?_)
    | (go_at_call 137;refine(Z36 m3 hdl.1 hdl.2).mono ?_;rintro e w5 ⟨d',n',rfl,m5,b5⟩;have r5:=r13.later b5)
    | (clear t6;refine Z0i (by rfl) _ _ (by rfl) g1 (by rfl) p d' n' (by rfl) _ r5 rfl ?_;intro w6 r6 s6))
   have z1:=s6.size
   have z2:=B3.size
   have z3:=b5.size
   have z4:=r13.lt
   refine bodyPost_ret (Zc5 srtP rfl rfl rfl r6 rfl) rfl ?_
   rw [ee.out]
   exact⟨d',n',rfl,(m5.step s6 (fun x hx e=>by have:=hx.1;omega)).mono (fun x hx=>⟨by have:=hx.1;omega,by have:=hx.2;omega⟩),((Stp.of_below (Z01 B3 b5 (Nat.le_refl _)) (fun _=>False)).next s6 (fun x e=> .inr (by omega))).below (Nat.le_refl _) (fun x e=>e.elim)⟩
set_option maxRecDepth 100000 in
set_option maxHeartbeats 2000000 in
theorem Z2t {w:World} {g mp mw:Nat} {f fw:Int→Option Value} {Z:GZ} {E F:Nat→Prop} (H:Gr w g mp mw f fw Z E F) (s:Int) (hs:wfi s) (hnl:∀ p ∈ Z.l,p.needs.length≤100000):
 Calls Tryz.prog 78 #[.pointer (some ⟨g,0,none⟩), .int .i64 s] w fun e w'=>∃ v L',e= .returned v∧PoI w w' v L' (wtP Z.l s):=by
 have tok2:True:=trivial
 obtain⟨z0,z1,z2⟩:=H.cells
 obtain⟨⟨va,vn,vc⟩,e1,ov,iv,hob⟩:=H.wait s
 simp only at e1
 have hwm:=H.wm
 go_enter Tryz.func78,Tryz.ntmps78
 go_wp2_with (first
  | (clear tok2;refine Z1a 187 54 uWm _ zI (by rfl) _ _ (by rfl) mw fw (by rfl) hwm s (by rfl) hs _ e1 ?_))
 have hvn:(wtP Z.l s).length=vn:=by rw [← Z4l];exact iv.i.len
 subst hvn
 have hfew:=H.ok.fewW s
 have i0:PoI w w (.slice none 0 0) [] ((wtP Z.l s).take 0):=⟨⟨OwP.nil w,(fun r e=>by cases e),Below.refl _ _⟩,rfl,fun t ht=>by cases ht⟩
 clear hwm z0 z1 z2 e1 ov
 go_loopw [5,17] (fun u x wr=>∃ (k:Nat) (sv:Sv) (L':List Pe),k≤(wtP Z.l s).length∧x= .int .i64 (k:Int)∧u= .slice sv.a sv.n sv.c∧PoI w wr (.slice sv.a sv.n sv.c) L' ((wtP Z.l s).take k)) (fun _ x _=>(wtP Z.l s).length - (intOf x).toNat)
 case atStart=>exact⟨0,Sv.nil, [],Nat.zero_le _,rfl,rfl,i0⟩
 case round=>
  clear i0
  obtain⟨k,sv,L',hk,rfl,rfl,I⟩:=hrel
  by_cases hkl:k < (wtP Z.l s).length
  · have iv4:=iv.later I.u.b
    have H4:=H.later I.u.b
    obtain⟨b,o,e,hcs⟩:=iv4.i.cell (by simp only;omega)
    have ck:=hcs k (by simp only;omega)
    rw [Zb0 hkl]at ck
    simp only at e
    have hq:=Z0y.1 (List.getElem_mem hkl)
    obtain⟨d4,n4,e4,m4,_⟩:=H4.look ((wtP Z.l s)[k]).id
    rw [H.ok.gt_of hq.1]at e4 m4
    have hfq:=Z13 (H.ok.ft _ hq.1)
    have hwq:=(H.ok.wfp hq.1).i
    have hnq:=hnl _ hq.1
    have hst:(wtP Z.l s).take (k+1)=(wtP Z.l s).take k++ [(wtP Z.l s)[k]]:=by rw [List.take_add_one,List.getElem?_eq_getElem hkl];rfl
    have hst':Hid ((wtP Z.l s).take (k+1)=(wtP Z.l s).take k++ [(wtP Z.l s)[k]]):=hst
    have hLl:L'.length=k:=by have:=congrArg List.length I.eq;simp at this;omega
    have hbig:L'.length+1≤1000000:=by omega
    have hdl:((wtP Z.l s)[k]).data.length≤100000:=by omega
    clear hst hLl hfq
    generalize (wtP Z.l s)[k]=q at *
    subst e
    have a9:(k:Int) < ((wtP Z.l s).length:Int):=by omega
    have pm4:=H4.pm
    obtain⟨z0,z1,z2⟩:=H4.cells
    have t1:True:=trivial
    have t2:True:=trivial
    have hO:=Z36 m4 hdl hnq
    clear hcs iv4 z0 z2
    go_wp2_with (first
     | (clear t1;refine Z1a 186 56 uPm _ zP (by rfl) _ _ (by rfl) mp f (by rfl) pm4 q.id (by rfl) hwq _ e4 ?_)
     | (go_at_call 137;refine hO.mono ?_;rintro e w5 ⟨d',n',rfl,m5,b5⟩
        have I5:=I.later b5
        have hnew:=Zi7 w5 ⟨q,d',n'⟩ 56)
     | (clear t2;refine Zq8 _ (by rfl) (by rfl) ⟨q,d',n'⟩ (by rfl) ?_)
     | (at_builtin;refine Z2m elP w.heap.size rfl _ _ (by rfl) (by rfl) (Z25 I5.u.ow ((Below.refl _ w5).alloc (Nat.le_refl _) _)) I5.u.nw (some ⟨w5.heap.size,0,none⟩) 1 (Pe.cs ⟨q,d',n'⟩) (by rfl) (by rfl) (fun e=>by cases e) (fun ad e=>by injection e with e;subst e;exact hnew) (Pe.cs_one _) hbig (Nat.le_trans I5.u.b.size (by simp)) ?_;intro v' w9 hA
        have P9:=I5.app m5 I.u.b.size (fun r hr=>I.u.ow.lt hr) hA
        obtain⟨xa,xn,xc,rfl⟩:=P9.u.ow.shape'
        clear hA))
    go_roundw
    case rel=>exact⟨k+1,⟨xa,xn,xc⟩,L'++ [⟨q,d',n'⟩],by omega,by go_num,rfl,by rw [hst'.out];exact P9⟩
    case measure=>simp [intOf];omega
  · have a9:¬(k:Int) < ((wtP Z.l s).length:Int):=by omega
    rw [List.take_of_length_le (by omega)]at I
    go_wp2_with fail
    go_returns
    exact⟨_,rfl,L',I⟩
def Z37 (o:Oper):Bool:=match o.op with
 | .defer _=>false
 | _=>true
theorem Z9l {o:Oper} (h:Z37 o=true):∀ c,o.op≠ .defer c:=fun c e=>by unfold Z37 at h;rw [e]at h;cases h
section
variable {P : Program} {ops : Array Oper} {Q : Exit → Act → World → Prop} {k n : Nat}
theorem Zju {row:String} {args:Array Value} {w:World} {R:Value→World→Prop} (h:Rows P row args w R):RowsIn (Fence.wide.inRound k) n P row args w R:=
 fun c cs _=>let ⟨v,w',r,s⟩:=h c cs;⟨v,w',r,stepsIn_wide.2 s⟩
theorem Zni {o:Oper} {a:Act} {w:World} {K K':Act→World→Prop} (hd:∀ c,o.op≠ .defer c) (hK:∀ a w,K a w→K' a w) (h:o.wp P a w K Q):o.wpIn (Fence.wide.inRound k) n P a w K' Q:=by
 refine⟨fun _ _=>trivial,?_⟩
 rw [Oper.semAt_eq _ _ _ hd]
 unfold Oper.wp at h
 generalize (execOp a.eval o).run P w=r at *
 cases r with
 | ok x w'=>
   cases x<;>simp only [Oper.upon,Oper.uponIn]at h ⊢
   case value v=>exact hK _ _ h
   case skip=>exact hK _ _ h
   case defer d=>exact hK _ _ h
   case enter f args=>
    refine⟨(fun e=>by cases e),?_⟩
    refine CallsIn.inRound k (callsIn_wide.2 (Calls.mono h ?_))
    intro e w'' he
    cases e<;>first | exact hK _ _ he | exact he
   case row row args=>exact⟨(fun e=>by cases e),Zju (Rows.mono h (fun _ _ he=>hK _ _ he))⟩
 | halt x w'=>cases x<;>simp only [Oper.upon,Oper.uponIn]at h ⊢<;>exact h
theorem Z0o (hx:¬LetsOut Q):∀ (l:List Oper) (a:Act) (w:World),l.all Z37=true→wpList P ops Q l a w→wpListIn (Fence.wide.inRound k) n P ops Q l a w
 | [],a,w,_,h=>h
 | o::r,a,w,hp,h=>by
   rw [List.all_cons,Bool.and_eq_true]at hp
   unfold wpList at h
   unfold wpListIn
   split at h
   · rename_i hw
     rw [if_pos hw]
     rcases h with h | h
     · exact Zni (Z9l hp.1) (fun a w h=>Z0o hx r a w hp.2 h) h
     · exact absurd h.2 hx
   · rename_i hw
     rw [if_neg hw]
     exact⟨fun _ _=>trivial,Z0o hx r _ _ hp.2 h⟩
theorem Z9a {md:Region.Mode} (hx:¬LetsOut Q) (hp:ops.toList.all Z37=true):∀ (fuel:Nat) (listed:Array Bool) (a:Act) (w:World),wpAny P md ops Q fuel listed a w→wpAnyIn (Fence.wide.inRound k) n P md ops Q fuel listed a w
 | 0,listed,a,w,h=>h
 | fuel+1,listed,a,w,h=>by
   refine⟨h.1,fun i hi=>?_⟩
   have h1:=h.2 i hi
   unfold wpOp at h1
   unfold wpOpIn
   cases ho:ops[i]? with
   | none=>simp only [ho]at h1;exact Z9a hx hp fuel _ _ _ h1
   | some o=>
     have hm:Z37 o=true:=List.all_eq_true.1 hp o (by
      rw [Array.mem_toList_iff];exact Array.mem_of_getElem? ho)
     simp only [ho]at h1 ⊢
     split at h1
     · rename_i hw
       rw [if_pos hw]
       rcases h1 with h1 | h1
       · exact Zni (Z9l hm) (fun a w h=>Z9a hx hp fuel _ a w h) h1
       · exact absurd h1.2 hx
     · rename_i hw
       rw [if_neg hw]
       exact⟨fun _ _=>trivial,Z9a hx hp fuel _ _ _ h1⟩
theorem Z5s {S:World→Prop} {id:Nat} {a:Act} {w:World} (ops0:Array Oper) (o:Oper) (hx:¬LetsOut Q) (hp:ops.toList.all Z37=true) (hpop:ops.pop=ops0) (hback:ops.back? =some o) (hm:P.follows .mixedOrders=true) (hok:Zcv ops0 o=true) (hS:S w.drew)
 (h:S w.drew→wpAnyH P .any ops0 (Rest P ops0 o Q) S ops0.size (Array.replicate ops0.size false) a w.drew):(Code.region id ops true).wpIn (Fence.wide.inRound k) n P Q a w:=by
 have hops:ops=ops0.push o:=by
  subst hpop
  apply Array.ext_getElem?
  intro i
  rw [Array.back?_eq_getElem?]at hback
  have hlt:=(Array.getElem?_eq_some_iff.1 hback).1
  rw [Array.getElem?_push,Array.size_pop,Array.getElem?_pop]
  by_cases e:i=ops.size - 1
  · rw [if_pos e,e,hback]
  · rw [if_neg e]
    split
    · rfl
    · exact Array.getElem?_eq_none (by omega)
 subst hops
 refine wpIn_region_any hm ?_
 have :=Za1 (P:=P) (Q:=Q) hok ops0.size (Array.replicate ops0.size false) a w.drew (by simp) (fun i x hx hl=>by
  have:=(Array.getElem?_eq_some_iff.1 hx).1
  simp [Array.getD,this]at hl) (wpAny_of_held _ _ _ _ (h hS))
 rw [Array.size_push,Array.replicate_succ]
 exact Z9a hx hp _ _ _ _ this
end
end Go.Proofs.YtogdffonjhghcaaGreatDoor
