/-
  Texts of my own, joined: no statement is proved here.
-/
import Derived.Test.YtogdffonjhghcaaGreatDoorJan
set_option linter.unusedSimpArgs false
set_option linter.unusedVariables false
namespace Go.Proofs.YtogdffonjhghcaaGreatDoor
open Go.ChangeShapes Go.WideShapes Go.ChangeAt Go.RowKit
structure Gr (w:World) (g mp mw:Nat) (f fw:Int→Option Value) (Z:GZ) (E F:Nat→Prop):Prop where
 c:Cs w g [.int .i64 Z.last, .map (some mp), .map (some mw)]
 pm:MpI Tryz.prog 3 w mp f
 wm:MpI Tryz.prog 3 w mw fw
 ps:∀ i p,fnd Z.l i=some p→∃ d n:Sv,f i=some (.agg (p.cs d n).toArray)∧PtM w E p d n
 pn:∀ i,fnd Z.l i=none→f i=none
 ws:∀ s,wts Z.l s≠ []→∃ v,fw s=some v∧OwV w v (wts Z.l s)∧∀ r,v.ownBlock=some r→F r∧r≠g
 wn:∀ s,wts Z.l s= []→fw s=none
 ap:∀ s s' v v' r,fw s=some v→fw s'=some v'→v.ownBlock=some r→v'.ownBlock=some r→s=s'
 fg:F g
 fm:F mp
 fw':F mw
 ne:mp≠mw
 lt:∀ x,F x→x < w.heap.size
 el:∀ x,E x→x < w.heap.size
 ef:∀ x,E x→¬F x
 ok:Z.ok 2000
section
variable {w w' : World} {g mp mw : Nat} {f fw : Int → Option Value} {Z : GZ} {E F X : Nat → Prop}
theorem Gr.step (H:Gr w g mp mw f fw Z E F) (k:Stp X w w') (hF:∀ x,F x→¬X x) (hE:∀ x,E x→¬X x):Gr w' g mp mw f fw Z E F:=
 ⟨H.c.step k (hF _ H.fg),H.pm.step k (hF _ H.fm),H.wm.step k (hF _ H.fw'),fun i p hp=>by
   obtain⟨d,n,h1,h2⟩:=H.ps i p hp
   exact⟨d,n,h1,h2.step k hE⟩,H.pn,fun s hs=>by
   obtain⟨v,h1,h2,h3⟩:=H.ws s hs
   exact⟨v,h1,h2.step k (fun r hr=>hF r (h3 r hr).1),h3⟩,H.wn,H.ap,H.fg,H.fm,H.fw',H.ne,fun x hx=>Nat.lt_of_lt_of_le (H.lt x hx) k.size,fun x hx=>Nat.lt_of_lt_of_le (H.el x hx) k.size,H.ef,H.ok⟩
theorem Gr.later (H:Gr w g mp mw f fw Z E F) (k:Below w.heap.size w w'):Gr w' g mp mw f fw Z E F:=H.step (Stp.of_below k (fun _=>False)) (fun _ _=>id) (fun _ _=>id)
theorem Gr.cells (H:Gr w g mp mw f fw Z E F):w.cell? ⟨g,0,none⟩=some (.int .i64 Z.last)∧w.cell? ⟨g,1,none⟩=some (.map (some mp))∧w.cell? ⟨g,2,none⟩=some (.map (some mw)):=
 ⟨H.c.cell 0 _ rfl,H.c.cell 1 _ rfl,H.c.cell 2 _ rfl⟩
def gt (l:List Pt) (i:Int):Pt:=(fnd l i).getD Pt.zero
theorem Gr.look (H:Gr w g mp mw f fw Z E F) (i:Int):∃ d n:Sv,(f i).getD (.agg (Pt.zero.cs Sv.nil Sv.nil).toArray)= .agg ((gt Z.l i).cs d n).toArray∧PtM w E (gt Z.l i) d n∧(f i).isSome=has Z.l i:=by
 rw [Z7t]
 unfold gt
 cases h:fnd Z.l i with
 | none=>rw [H.pn i h];exact⟨Sv.nil,Sv.nil,rfl,PtM.zero w E,rfl⟩
 | some p=>
   obtain⟨d,n,h1,h2⟩:=H.ps i p h
   rw [h1];exact⟨d,n,rfl,h2,rfl⟩
theorem Gr.wait (H:Gr w g mp mw f fw Z E F) (s:Int):∃ v:Sv,(fw s).getD (.slice none 0 0)= .slice v.a v.n v.c∧OwV w (.slice v.a v.n v.c) (wts Z.l s)∧InsS w v (wts Z.l s)∧(∀ r,(Value.slice v.a v.n v.c).ownBlock=some r→F r∧r≠g):=by
 have hwf:∀ x ∈ wts Z.l s,wfi x:=fun x hx=>by
  obtain⟨p,h1,h2,_⟩:=Z2b.1 hx
  have:=H.ok.rng p h1
  have h3:=H.ok.lt
  exact Z0z (by omega)
 by_cases h:wts Z.l s= []
 · rw [H.wn s h,h];exact⟨Sv.nil,rfl,OwV.nil w,InsS.nil w,fun r e=>by cases e⟩
 · obtain⟨v,h1,h2,h3⟩:=H.ws s h
   obtain⟨sv,e1,e2,e3,_⟩:=h2.ins (B:=0) hwf (fun r _=>Nat.zero_le r)
   subst e1
   exact⟨sv,by rw [h1];rfl,h2,e3,h3⟩
theorem GZ.ok.wfp (h:Z.ok 2000) {p:Pt} (hp:p ∈ Z.l):p.wfp:=by
 obtain⟨f1,f2,f3,f4,f5,f6,f7⟩:=Z13 (h.ft p hp)
 have:=h.rng p hp
 have:=h.lt
 exact⟨Z0z (by omega),Z0z (by omega),Z0z (by omega),Z0z (by omega),(h.wf p hp).1,(h.wf p hp).2⟩
theorem uPm:Tryz.prog.underlying 186=some (.map 3 56):=by kernel_rfl
theorem uWm:Tryz.prog.underlying 187=some (.map 3 54):=by kernel_rfl
theorem zP (w:World):(zeroValue 56).run Tryz.prog w= .ok (.agg (Pt.zero.cs Sv.nil Sv.nil).toArray) w:=srtP.zero w
theorem zI (w:World):(zeroValue 54).run Tryz.prog w= .ok (.slice none 0 0) w:=(zero_of_info (v:= .slice none 0 0) (n:=1) (by kernel_rfl)).1 w
end
section
variable {ops : Array Oper} {rest : List Oper} {o : Oper} {a : Act} {w : World} {Q : Exit → Act → World → Prop}
theorem Z1a (T E:Nat) (hT:Tryz.prog.underlying T=some (.map 3 E)) (z:Value) (hz:∀ w,(zeroValue E).run Tryz.prog w= .ok z w) (hw:Region.wanted o (yielded ops a.tmps)=true) (m x:Operand) (ho:o.op= .lookup T m x false) (b:Nat) (f:Int→Option Value) (hm:a.eval m= .map (some b)) (hM:MpI Tryz.prog 3 w b f) (k:Int) (hx:a.eval x= .int .i64 k) (hk:(Lit.int .i64 k).wf=true) (v:Value) (hv:(f k).getD z=v)
 (h:wpList Tryz.prog ops Q rest (a.put o.dst v) w):wpList Tryz.prog ops Q (o::rest) a w:=by
 subst hv
 refine Z09 hw _ _ ?_ h
 simp [execOp,ho,hm,hx,hM.look Zc9 hT (hz w) hk]
theorem Z1i (T E:Nat) (hT:Tryz.prog.underlying T=some (.map 3 E)) (z:Value) (hz:∀ w,(zeroValue E).run Tryz.prog w= .ok z w) (hw:Region.wanted o (yielded ops a.tmps)=true) (m x:Operand) (ho:o.op= .lookup T m x true) (b:Nat) (f:Int→Option Value) (hm:a.eval m= .map (some b)) (hM:MpI Tryz.prog 3 w b f) (k:Int) (hx:a.eval x= .int .i64 k) (hk:(Lit.int .i64 k).wf=true) (v:Value) (hv:(f k).getD z=v) (c:Bool) (hc:(f k).isSome=c)
 (h:wpList Tryz.prog ops Q rest (a.put o.dst (.tuple #[v, .bool c])) w):wpList Tryz.prog ops Q (o::rest) a w:=by
 subst hv;subst hc
 exact Z1h T E hT z hz hw m x ho b f hm hM k hx hk h
end
section
variable {ops : Array Oper} {rest : List Oper} {o : Oper} {a : Act} {w : World} {Q : Exit → Act → World → Prop}
theorem Z3j (T E:Nat) (hT:Tryz.prog.underlying T=some (.map 3 E)) (hw:Region.wanted o (yielded ops a.tmps)=true) (m x y:Operand) (ho:o.op= .mapUpdate T m x y) (b:Nat) (f:Int→Option Value) (hm:a.eval m= .map (some b)) (k:Int) (hx:a.eval x= .int .i64 k) (v:Value) (hy:a.eval y=v)
 (hM:MpI Tryz.prog 3 w b f) (hf:∀ k,(f k).isSome→0≤k∧k < 2048) (hk:(Lit.int .i64 k).wf=true)
 (h:∀ w',MpI Tryz.prog 3 w' b (upd f k (some v))→Stp (fun x=>x=b) w w'→wpList Tryz.prog ops Q rest (a.put o.dst undef) w'):wpList Tryz.prog ops Q (o::rest) a w:=by
 obtain⟨w',r1,r2,r3⟩:=hM.store Zc9 hT hf hk v
 refine Z35 hw _ ?_ (h w' r2 (Z0a r3))
 simp [execOp,ho,hm,hx,hy,r1]
end
theorem Zlw {l:List Pt} {p:Pt} {k:Nat} (h:(p.needs.take k).any (has l)=true):held l p=true:=by
 unfold held
 have:=List.take_append_drop k p.needs
 rw [← this,List.any_append,h];rfl
set_option maxRecDepth 100000 in
set_option maxHeartbeats 2000000 in
theorem Z6e {w:World} {g mp mw:Nat} {f fw:Int→Option Value} {Z:GZ} {E F:Nat→Prop} (H:Gr w g mp mw f fw Z E F) (p:Pt) (d n:Sv) (h:InsS w n p.needs) (hm:p.needs.length≤100000):
 Calls Tryz.prog 271 #[.pointer (some ⟨g,0,none⟩), .agg (p.cs d n).toArray] w fun e w'=>e= .returned (.bool (held Z.l p))∧Below w.heap.size w w':=by
 have tok:True:=trivial
 have hl:=h.i.len
 have hwf:=h.i.wf
 obtain⟨na,nn,nc⟩:=n
 go_enter Tryz.func271,Tryz.ntmps271
 go_wp2_with (first
  | (clear tok;refine Z0g (by rfl) _ (by rfl) p d ⟨na,nn,nc⟩ (by rfl) ?_;intro g1 w1 a1 a2 r1 b1;obtain⟨c0,c1,c2,c3,c4,c5,c6,c7,c8⟩:=Pt.cells r1;clear c0 c1 c2 c3 c4 c6 c7 c8 hl))
 clear c5
 have hl:=h.i.len
 go_loopw [12] (fun v wr=>∃ k:Nat,k≤p.needs.length∧v= .int .i64 (k:Int)∧Below w.heap.size w wr∧(p.needs.take k).any (has Z.l)=false) (fun v _=>p.needs.length - (intOf v).toNat)
 case atStart=>exact⟨0,Nat.zero_le _,rfl,b1,rfl⟩
 case round=>
  obtain⟨k,hk,rfl,hb,hn⟩:=hrel
  by_cases hlt:k < p.needs.length
  · have h2:=h.later hb
    obtain⟨b,o,e,hcs⟩:=h2.i.cell (by simp only at hl ⊢;omega)
    have ck:=hcs k (by simp only at hl ⊢;omega)
    simp only at e
    subst e
    have hw0:wfi (p.needs.getD k 0):=by
     rw [List.getD_eq_getElem?_getD,List.getElem?_eq_getElem hlt];exact hwf _ (List.getElem_mem _)
    have H2:=H.later hb
    obtain⟨z0,z1,z2⟩:=H2.cells
    obtain⟨d2,n2,e2,m2,e3⟩:=H2.look (p.needs.getD k 0)
    have hT:(p.needs.take (k+1)).any (has Z.l)=has Z.l (p.needs.getD k 0):=by
     rw [List.take_add_one,List.getElem?_eq_getElem hlt,List.any_append,hn,List.getD_eq_getElem?_getD,List.getElem?_eq_getElem hlt];simp
    have hT':Hid ((p.needs.take (k+1)).any (has Z.l)=has Z.l (p.needs.getD k 0)):=hT
    have pm:=H2.pm
    clear hT hcs h2 H2 m2 hn
    generalize p.needs.getD k 0=y at *
    generalize gt Z.l y=q at *
    have a3:(k:Int) < (nn:Int):=by simp only at hl;omega
    have tok3:True:=trivial
    have tok4:True:=trivial
    have tok5:True:=trivial
    have hY:Hid (has Z.l y=true→held Z.l p=true):=fun e=>Zlw (k:=k+1) (by rw [hT'.out,e])
    cases hc:has Z.l y with
    | true=>
      rw [hc]at e3 hT' hY
      go_wp2_with (first
       | (clear tok3;refine Z1i 186 56 uPm _ zP (by rfl) _ _ (by rfl) mp f (by rfl) pm y (by rfl) hw0 _ e2 _ e3 ?_)
       | (clear tok4;refine Z0t (by rfl) (by rfl) ?_;intro g3 w3 a5 a6 r3 b3)
       | (clear tok5;refine Z0i (by rfl) _ _ (by rfl) g3 (by rfl) q d2 n2 (by rfl) _ r3 rfl ?_;intro w4 r4 s4))
      go_returns
      exact⟨Z0s (hY.out trivial).symm,((Stp.of_below (Z01 hb b3 (Nat.le_refl _)) (fun _=>False)).next s4 (fun x e=> .inr (by have:=hb.size;omega))).below (Nat.le_refl _) (fun x e=>e.elim)⟩
    | false=>
      rw [hc]at e3 hT'
      go_wp2_with (first
       | (clear tok3;refine Z1i 186 56 uPm _ zP (by rfl) _ _ (by rfl) mp f (by rfl) pm y (by rfl) hw0 _ e2 _ e3 ?_)
       | (clear tok4;refine Z0t (by rfl) (by rfl) ?_;intro g3 w3 a5 a6 r3 b3)
       | (clear tok5;refine Z0i (by rfl) _ _ (by rfl) g3 (by rfl) q d2 n2 (by rfl) _ r3 rfl ?_;intro w4 r4 s4))
      go_roundw
      case rel=>exact⟨k+1,by omega,by go_num,((Stp.of_below (Z01 hb b3 (Nat.le_refl _)) (fun _=>False)).next s4 (fun x e=> .inr (by have:=hb.size;omega))).below (Nat.le_refl _) (fun x e=>e.elim),hT'.out⟩
      case measure=>simp [intOf];omega
  · have hk':k=p.needs.length:=by omega
    subst hk'
    rw [List.take_length]at hn
    have hn':Hid (held Z.l p=false):=hn
    clear hn
    go_wp2
    go_returns
    exact⟨Z0s hn'.out.symm,hb⟩
section
variable {ops : Array Oper} {o : Oper} {a : Act} {S : World → Prop}
theorem Z31 (T E:Nat) (hT:Tryz.prog.underlying T=some (.map 3 E)) (z:Value) (hz:∀ w,(zeroValue E).run Tryz.prog w= .ok z w) (hw:Region.wanted o (yielded ops a.tmps)=true) (m x:Operand) (ho:o.op= .lookup T m x false) (b:Nat) (f:Int→Option Value) (hm:a.eval m= .map (some b)) (k:Int) (hx:a.eval x= .int .i64 k) (hk:(Lit.int .i64 k).wf=true) (hS:∀ w,S w→MpI Tryz.prog 3 w b f) (v:Value) (hv:(f k).getD z=v):
 YieldsIf Tryz.prog ops S o v a:=by
 subst hv;exact Z1l T E hT z hz hw m x ho b f hm k hx hk hS
end
theorem Z0y {l:List Pt} {s:Int} {p:Pt} :p ∈ wtP l s↔p ∈ l∧p.at'=s∧p.wr=false:=by
 unfold wtP inS;simp [List.mem_filter]
theorem Z4l (l:List Pt) (s:Int):(wts l s).length=(wtP l s).length:=by unfold wts ids;simp
theorem Zb0 {l:List Pt} {s:Int} {k:Nat} (hk:k < (wtP l s).length):(wts l s).getD k 0=((wtP l s)[k]).id:=by
 unfold wts ids;rw [List.getD_eq_getElem?_getD,List.getElem?_map,List.getElem?_eq_getElem hk];rfl
theorem GZ.ok.gt_of {Z:GZ} {t:Int} (h:Z.ok t) {p:Pt} (hp:p ∈ Z.l):gt Z.l p.id=p:=by unfold gt;rw [Z29 h.srt hp];rfl
def ahd (l:List Pt) (p:Pt):List Pt:=(wtP l p.at').filter fun q=>decide (q.id < p.id)
theorem Zez {l:List Pt} {p:Pt} (hs:l.Pairwise fun a b=>a.id < b.id) (k:Nat) (hk:k≤(wtP l p.at').length) (h1:∀ q ∈ (wtP l p.at').take k,q.id < p.id) (h2:∀ h:k < (wtP l p.at').length,p.id≤((wtP l p.at')[k]).id):ahd l p=(wtP l p.at').take k:=by
 unfold ahd
 have hW:(wtP l p.at').Pairwise fun a b=>a.id < b.id:=hs.filter _
 generalize wtP l p.at'=W at *
 have:=List.take_append_drop k W
 conv=>lhs;rw [← this]
 rw [List.filter_append,List.filter_eq_self.2 (fun q hq=>by simpa using h1 q hq)]
 have :(W.drop k).filter (fun q=>decide (q.id < p.id))= []:=by
  refine List.filter_eq_nil_iff.2 fun q hq=>?_
  simp only [decide_eq_true_eq,Int.not_lt]
  by_cases hlt:k < W.length
  · rw [List.drop_eq_getElem_cons hlt]at hq
    have h3:=h2 hlt
    rcases List.mem_cons.1 hq with rfl | hq
    · exact h3
    · have hp2:(W.drop k).Pairwise fun a b=>a.id < b.id:=hW.sublist (List.drop_sublist k W)
      rw [List.drop_eq_getElem_cons hlt,List.pairwise_cons]at hp2
      have:=hp2.1 q hq
      omega
  · rw [List.drop_eq_nil_of_le (by omega)]at hq;cases hq
 rw [this,List.append_nil]
theorem Zqa {l:List Pt} (p:Pt) (hp:fit p=true) (hf:∀ q ∈ l,fit q=true):mtS (shB (ahd l p)) (shK (ahd l p)) p=bhd l p:=by
 rw [Zd0 p hp _ (fun q hq=>by
  unfold ahd at hq
  have h1:=Z0y.1 (List.mem_filter.1 hq).1
  exact⟨hf q h1.1,h1.2.1⟩)]
 unfold ahd bhd wtP
 rw [List.filter_filter,List.any_filter]
 congr 1
 funext q
 unfold inS meet
 by_cases e:q.at'=p.at'
 · cases q.wr<;>simp [e]
 · have e':(q.at'==p.at')=false:=by simpa using e
   cases q.wr<;>simp [e']
set_option maxRecDepth 100000 in
set_option maxHeartbeats 2000000 in
theorem Zht {w:World} {g mp mw:Nat} {f fw:Int→Option Value} {Z:GZ} {E F:Nat→Prop} (H:Gr w g mp mw f fw Z E F) (p:Pt) (d n:Sv) (hs:wfi p.at'):
 Calls Tryz.prog 309 #[.pointer (some ⟨g,0,none⟩), .agg (p.cs d n).toArray] w fun e w'=>e= .returned (.agg (shC (shB (ahd Z.l p)) (shK (ahd Z.l p))).toArray)∧Below w.heap.size w w':=by
 have tok:True:=trivial
 have tok2:True:=trivial
 have tok3:True:=trivial
 go_enter Tryz.func309,Tryz.ntmps309
 go_wp2_with (first
  | (clear tok;refine Z0g (by rfl) _ (by rfl) p d n (by rfl) ?_;intro g1 w1 a1 a2 r1 b1)
  | (clear tok2;refine Z28 279 2 _ srtS (by rfl) (by rfl) ?_;intro g2 w2 a3 a4 r2 b2)
  | (clear tok3;refine Z28 279 2 _ srtS (by rfl) (by rfl) ?_;intro g3 w3 a5 a6 r3 b3))
 replace r1:=(r1.later b2).later b3
 replace r2:=r2.later b3
 have b9:Below w.heap.size w w3:=Z01 (Z01 b1 b2 (Nat.le_refl _)) b3 (Nat.le_refl _)
 have H3:=H.later b9
 obtain⟨⟨va,vn,vc⟩,e1,ov,iv,hob⟩:=H3.wait p.at'
 have hvn:(wtP Z.l p.at').length=vn:=by rw [← Z4l];exact iv.i.len
 simp only at e1
 refine wp_region_held_drew (S:=fun u=>Below w3.heap.size w3 u) (by kernel_rfl) (Below.refl _ _).drew (fun hHeld=>?_)
 refine tl 0 (.pointer (some ⟨g,0,none⟩)) rfl ?_
 try simp only [z]
 refine tl 1 (.pointer (some ⟨g,0,none⟩)) rfl ?_
 try simp only [z]
 refine tl 2 (.pointer (some ⟨g,2,none⟩)) rfl ?_
 try simp only [z]
 refine tl 3 (.map (some mw)) rfl ?_ (fun u hu=>by have x1:=(H3.later hu).cells.2.2;go_simp)
 try simp only [z]
 refine tl 4 (.pointer (some ⟨g1,1,none⟩)) rfl ?_
 try simp only [z]
 refine tl 5 (.int .i64 p.at') rfl ?_ (fun u hu=>by have x1:=(Pt.cells (r1.later hu)).2.1;go_simp)
 try simp only [z]
 refine tm 6 (.slice va vn vc) rfl
  (Z31 187 54 uWm _ zI (by rfl) _ _ (by rfl) mw fw (by rfl) p.at' (by rfl) hs (fun u hu=>(H3.later hu).wm) _ e1) ?_
 try simp only [z]
 refine tl 7 (.int .i64 (vn:Int)) rfl ?_
 try simp only [z]
 refine tl 8 (.int .i64 0) rfl ?_
 try simp only [z]
 refine wpAnyH_done (by kernel_rfl) ?_ _
 go_wp2_with fail
 subst hvn
 have b8:Below w.heap.size w w3.drew:=b9.drew
 have st0:Stp (fun x=>x=g3) w3 w3.drew:=(Stp.refl _ w3).drew
 have r30:=r3.step (Stp.refl (fun _=>False) w3).drew id
 have hg3:∀ x,x < w.heap.size→x≠g3:=fun x hx e=>by have:=b1.size;have:=b2.size;omega
 clear hHeld e1 ov
 have hfew:=H.ok.fewW p.at'
 go_loopw [16] (fun x wr=>∃ k:Nat,k≤(wtP Z.l p.at').length∧x= .int .i64 (k:Int)∧Stp (fun x=>x=g3) w3 wr∧Cs wr g3 (shC (shB ((wtP Z.l p.at').take k)) (shK ((wtP Z.l p.at').take k)))∧∀ q ∈ (wtP Z.l p.at').take k,q.id < p.id) (fun v _=>(wtP Z.l p.at').length - (intOf v).toNat)
 case atStart=>exact⟨0,Nat.zero_le _,rfl,st0,r30,fun q hq=>by cases hq⟩
 case round=>
  obtain⟨k,hk,rfl,st,rs,hlt⟩:=hrel
  have H4:=H3.step st (fun x hx=>hg3 x (H.lt x hx)) (fun x hx=>hg3 x (H.el x hx))
  have r14:=r1.step st (by omega)
  have r24:=r2.step st (by omega)
  by_cases hkl:k < (wtP Z.l p.at').length
  · have iv4:Ins wr va (wtP Z.l p.at').length vc (wts Z.l p.at'):=iv.i.step st (fun x hn e=>hg3 _ (H.lt _ (hob x.block (by simp only at e;rw [e];rfl)).1))
    obtain⟨b,o,e,hcs⟩:=iv4.cell (by omega)
    have ck:=hcs k hkl
    rw [Zb0 hkl]at ck
    have hq:=Z0y.1 (List.getElem_mem hkl)
    have hcut:=Zez (p:=p) H.ok.srt k hk hlt
    have htk:(wtP Z.l p.at').take (k+1)=(wtP Z.l p.at').take k++ [(wtP Z.l p.at')[k]]:=by
     rw [List.take_add_one,List.getElem?_eq_getElem hkl];rfl
    obtain⟨d4,n4,e4,m4,_⟩:=H4.look ((wtP Z.l p.at')[k]).id
    rw [H.ok.gt_of hq.1]at e4 m4
    have hfq:=H.ok.ft _ hq.1
    have hwq:=(H.ok.wfp hq.1).i
    have hsh:=Zc7 ((wtP Z.l p.at').take k) (fun q hq=>H.ok.ft q (Z0y.1 (List.mem_of_mem_take hq)).1)
    have hx1:oB (shB ((wtP Z.l p.at').take k)) ((wtP Z.l p.at')[k])=shB ((wtP Z.l p.at').take (k+1)):=by rw [htk,Z42];rfl
    have hx2:oK (shK ((wtP Z.l p.at').take k)) ((wtP Z.l p.at')[k])=shK ((wtP Z.l p.at').take (k+1)):=by rw [htk,Z43];rfl
    have hlt1:((wtP Z.l p.at')[k]).id < p.id→∀ q ∈ (wtP Z.l p.at').take (k+1),q.id < p.id:=fun h q hq=>by
     rw [htk]at hq
     rcases List.mem_append.1 hq with h1 | h1
     · exact hlt q h1
     · rw [List.mem_singleton.1 h1];exact h
    replace hcut:Hid (p.id≤((wtP Z.l p.at')[k]).id→ahd Z.l p=(wtP Z.l p.at').take k):=fun h=>hcut (fun _=>h)
    generalize (wtP Z.l p.at')[k]=q at *
    subst e
    have a9:(k:Int) < ((wtP Z.l p.at').length:Int):=by omega
    obtain⟨_,_,_,_,_,_,_,_,_⟩:=Pt.cells r14
    clear hcs iv4 htk
    by_cases hc:p.id≤q.id
    · rw [← hcut.out hc]at rs
      clear hlt hsh
      go_wp2_with (first
       | (refine Z3i 279 2 _ srtS (by rfl) _ (by rfl) g3 (by rfl) _ rs rfl ?_)
       | (refine Z1q 279 2 _ srtS (by rfl) _ _ (by rfl) g2 (by rfl) _ (by rfl) rfl (Z3a _ _) _ r24 rfl ?_;intro w6 r6 s6))
      refine bodyPost_ret (retC srtS rfl rfl r6 rfl) rfl ⟨rfl,?_⟩
      exact(((Stp.of_below b9 (fun _=>False)).next st (fun x e=> .inr (by have:=b1.size;have:=b2.size;omega))).next s6 (fun x e=> .inr (by have:=b1.size;omega))).below (Nat.le_refl _) (fun x e=>e.elim)
    · have hc':q.id < p.id:=by omega
      have hlt2:=hlt1 hc'
      have hW:=Z97 (shB ((wtP Z.l p.at').take k)) (shK ((wtP Z.l p.at').take k)) q d4 n4
      clear hcut hlt hlt1
      go_wp2_with fail
      refine Z0n (S:=fun u=>Below wr.heap.size wr u) _ _ (by simp only [List.pop_toArray,List.dropLast_cons_cons,List.dropLast_singleton];rfl) (by simp only [List.back?_toArray,List.getLast?_cons_cons,List.getLast?_singleton];rfl) (by kernel_rfl) (by kernel_rfl) (Below.refl _ _).drew (fun hHeld=>?_)
      refine tm 0 (.agg (shC (shB ((wtP Z.l p.at').take k)) (shK ((wtP Z.l p.at').take k))).toArray) rfl
       (Ze7 279 2 _ srtS (by rfl) _ (by rfl) g3 (by rfl) _ rfl (fun u hu=>rs.later hu)) ?_
      try simp only [z]
      refine tl 1 (.pointer (some ⟨g,0,none⟩)) rfl ?_
      try simp only [z]
      refine tl 2 (.pointer (some ⟨g,0,none⟩)) rfl ?_
      try simp only [z]
      refine tl 3 (.pointer (some ⟨g,1,none⟩)) rfl ?_
      try simp only [z]
      refine tl 4 (.map (some mp)) rfl ?_ (fun u hu=>by have x1:=(H4.later hu).cells.2.1;go_simp)
      try simp only [z]
      refine tl 5 (.int .i64 q.id) rfl ?_
      try simp only [z]
      refine tm 6 (.agg (q.cs d4 n4).toArray) rfl
       (Z31 186 56 uPm _ zP (by rfl) _ _ (by rfl) mp f (by rfl) q.id (by rfl) hwq (fun u hu=>(H4.later hu).pm) _ e4) ?_
      try simp only [z]
      refine rd 7 rfl (fun K hK=>?_)
      go_simp
      refine(hW _ hsh.1 hsh.2 hfq m4.bs.len.symm).mono ?_
      rintro e w5 ⟨rfl,q5⟩
      try go_wp2_with fail
      refine hK.out _ _ (Z01 (by assumption) q5 (Nat.le_refl _)) (fun hHeld=>?_)
      clear hK K
      try simp only [z]
      refine wpAnyH_done (by kernel_rfl) ?_ _
      have rs5:=rs.later hHeld
      clear hx1 hx2 hW H4 r14 r24 hsh rs
      show wpList _ _ _ [_] _ _
      refine Z1q 279 2 _ srtS (by rfl) _ _ (by rfl) g3 (by rfl) _ (by rfl) rfl (Z3a _ _) _ rs5 rfl ?_
      intro w6 r6 s6
      go_wp2_with fail
      go_roundw
      case rel=>exact⟨k+1,by omega,by go_num,(st.next (Stp.of_below hHeld (fun _=>False)) (fun x e=>e.elim)).next s6 (fun x e=> .inl e),r6,hlt2⟩
      case measure=>simp [intOf];omega
  · have hk':k=(wtP Z.l p.at').length:=by omega
    have e5:=Zez (p:=p) H.ok.srt k hk hlt (fun h=>absurd h hkl)
    rw [← e5]at rs
    subst hk'
    go_wp2_with (first
     | (refine Z3i 279 2 _ srtS (by rfl) _ (by rfl) g3 (by rfl) _ rs rfl ?_)
     | (refine Z1q 279 2 _ srtS (by rfl) _ _ (by rfl) g2 (by rfl) _ (by rfl) rfl (Z3a _ _) _ r24 rfl ?_;intro w6 r6 s6))
    refine bodyPost_ret (retC srtS rfl rfl r6 rfl) rfl ⟨rfl,?_⟩
    exact(((Stp.of_below b9 (fun _=>False)).next st (fun x e=> .inr (by have:=b1.size;have:=b2.size;omega))).next s6 (fun x e=> .inr (by have:=b1.size;omega))).below (Nat.le_refl _) (fun x e=>e.elim)
structure RdI (w:World) (B g2:Nat) (l:List Pt) (s:Int) (wr:World) (v:Value) (k:Nat) (late out:List Pt):Prop where
 le:k≤(wtP l s).length
 run:rdS l [] (wtP l s)=out++rdS l late ((wtP l s).drop k)
 lt:∀ q ∈ late,q ∈ wtP l s
 fl:out.length≤k
 ow:OwV wr v (ids out)
 nw:New B v
 bs:B≤wr.heap.size
 cs:Cs wr g2 (shC (shB late) (shK late))
 b:Below w.heap.size w wr
section
variable {w wr w' : World} {B g2 : Nat} {l : List Pt} {s : Int} {v : Value} {k : Nat} {late out : List Pt}
theorem RdI.later (h:RdI w B g2 l s wr v k late out) (b:Below wr.heap.size wr w'):RdI w B g2 l s w' v k late out:=
 ⟨h.le,h.run,h.lt,h.fl,h.ow.later b,h.nw,Nat.le_trans h.bs b.size,h.cs.later b,Z01 h.b b (Nat.le_refl _)⟩
theorem RdI.less (h:RdI w B g2 l s wr v k late out) (hk:k < (wtP l s).length) (hc:(held l (wtP l s)[k]||late.any (fun q=>meet q (wtP l s)[k]))=true) (hg:g2 < B) (hw:w.heap.size≤g2)
 (st:Stp (fun x=>x=g2) wr w') (hC:Cs w' g2 (shC (shB (late++ [(wtP l s)[k]])) (shK (late++ [(wtP l s)[k]])))):RdI w B g2 l s w' v (k+1) (late++ [(wtP l s)[k]]) out:=by
 refine⟨hk,?_,?_,by have:=h.fl;omega,h.ow.step st (fun r hr e=>by have:=h.nw r hr;omega),h.nw,Nat.le_trans h.bs st.size,hC,?_⟩
 · rw [h.run,List.drop_eq_getElem_cons hk,rdS,if_pos hc]
 · intro q hq
   rcases List.mem_append.1 hq with h1 | h1
   · exact h.lt q h1
   · rw [List.mem_singleton.1 h1];exact List.getElem_mem hk
 · exact((Stp.of_below h.b (fun _=>False)).next st (fun x e=> .inr (by omega))).below (Nat.le_refl _) (fun x e=>e.elim)
theorem RdI.more {v':Value} {w1:World} (h:RdI w B g2 l s wr v k late out) (hk:k < (wtP l s).length) (hc:(held l (wtP l s)[k]||late.any (fun q=>meet q (wtP l s)[k]))=false) (hg:g2 < B) (hw:w.heap.size≤g2) (b1:Below wr.heap.size wr w1)
 (hA:Apd w1 B 3 1 v (ids out).length 1 ((ids out).map (Value.int .i64)++ [.int .i64 ((wtP l s)[k]).id]) v' w'):RdI w B g2 l s w' v' (k+1) late (out++ [(wtP l s)[k]]):=by
 obtain⟨h1,h2,h3,h4,_⟩:=hA
 have h':=h.later b1
 refine⟨hk,?_,h.lt,by have:=h.fl;simp;omega,?_,h2,Nat.le_trans h'.bs h4.size,h'.cs.step h4 (fun e=>by have:=h.nw g2 e;omega),?_⟩
 · rw [h.run,List.drop_eq_getElem_cons hk,rdS,if_neg (by rw [hc];simp)];simp
 · have e:ids (out++ [(wtP l s)[k]])=ids out++ [((wtP l s)[k]).id]:=by unfold ids;simp
   unfold OwV
   rw [e];simpa using h1
 · exact((Stp.of_below h'.b (fun _=>False)).next h4 (fun x e=> .inr (by have:=h.nw x e;omega))).below (Nat.le_refl _) (fun x e=>e.elim)
end
set_option maxRecDepth 100000 in
set_option maxHeartbeats 4000000 in
theorem Zbf {w:World} {g mp mw:Nat} {f fw:Int→Option Value} {Z:GZ} {E F:Nat→Prop} (H:Gr w g mp mw f fw Z E F) (s:Int) (hs:wfi s) (hnl:∀ p ∈ Z.l,p.needs.length≤100000):
 Calls Tryz.prog 215 #[.pointer (some ⟨g,0,none⟩), .int .i64 s] w fun e w'=>∃ v,e= .returned v∧OwV w' v (rdy Z.l s)∧New w.heap.size v∧Below w.heap.size w w':=by
 have tok:True:=trivial
 have tok2:True:=trivial
 obtain⟨z0,z1,z2⟩:=H.cells
 obtain⟨⟨va,vn,vc⟩,e1,ov,iv,hob⟩:=H.wait s
 simp only at e1
 go_enter Tryz.func215,Tryz.ntmps215
 go_wp2_with (first
  | (clear tok;refine Z28 279 2 _ srtS (by rfl) (by rfl) ?_;intro g2 w2 a3 a4 r2 b2;have H2:=H.later b2;have hwm:=H2.wm;clear z0 z1 z2;obtain⟨z0,z1,z2⟩:=H2.cells)
  | (clear tok2;refine Z1a 187 54 uWm _ zI (by rfl) _ _ (by rfl) mw fw (by rfl) hwm s (by rfl) hs _ e1 ?_))
 have hvn:(wtP Z.l s).length=vn:=by rw [← Z4l];exact iv.i.len
 subst hvn
 have hfew:=H.ok.fewW s
 have i0:RdI w w2.heap.size g2 Z.l s w2 (.slice none 0 0) 0 [] []:=⟨Nat.zero_le _,rfl,(fun q hq=>by cases hq),Nat.le_refl _,OwV.nil w2,(fun r e=>by cases e),Nat.le_refl _,r2,b2⟩
 clear hwm z0 z1 z2 e1 ov
 go_loopw [5,19] (fun v x wr=>∃ (k:Nat) (late out:List Pt) (sv:Sv),x= .int .i64 (k:Int)∧v= .slice sv.a sv.n sv.c∧RdI w w2.heap.size g2 Z.l s wr (.slice sv.a sv.n sv.c) k late out) (fun _ x _=>(wtP Z.l s).length - (intOf x).toNat)
 case atStart=>exact⟨0, [], [],Sv.nil,rfl,rfl,i0⟩
 case round=>
  obtain⟨k,late,out,sv,rfl,rfl,I⟩:=hrel
  by_cases hkl:k < (wtP Z.l s).length
  · have iv4:=iv.later I.b
    have H4:=H.later I.b
    obtain⟨b,o,e,hcs⟩:=iv4.i.cell (by simp only;omega)
    have ck:=hcs k (by simp only;omega)
    rw [Zb0 hkl]at ck
    simp only at e
    have hq:=Z0y.1 (List.getElem_mem hkl)
    obtain⟨d4,n4,e4,m4,_⟩:=H4.look ((wtP Z.l s)[k]).id
    rw [H.ok.gt_of hq.1]at e4 m4
    have hfq:=H.ok.ft _ hq.1
    have hwq:=(H.ok.wfp hq.1).i
    have hnq:=hnl _ hq.1
    have hsh:=Zc7 late (fun q hq=>H.ok.ft q (Z0y.1 (I.lt q hq)).1)
    have hmt:=Zd0 (wtP Z.l s)[k] hfq late (fun r hr=>⟨H.ok.ft r (Z0y.1 (I.lt r hr)).1,by rw [(Z0y.1 (I.lt r hr)).2.1,hq.2.1]⟩)
    have hx1:oB (shB late) (wtP Z.l s)[k]=shB (late++ [(wtP Z.l s)[k]]):=by rw [Z42];rfl
    have hx2:oK (shK late) (wtP Z.l s)[k]=shK (late++ [(wtP Z.l s)[k]]):=by rw [Z43];rfl
    have nxL:=fun w6 (I6:RdI w w2.heap.size g2 Z.l s w6 (.slice sv.a sv.n sv.c) k late out) hc w7=>I6.less (w':=w7) hkl hc a4 a3
    have nxM:=fun w6 (I6:RdI w w2.heap.size g2 Z.l s w6 (.slice sv.a sv.n sv.c) k late out) hc v' w1 w7=>I6.more (v':=v') (w1:=w1) (w':=w7) hkl hc a4 a3
    have hW:=Z97 (shB late) (shK late) (wtP Z.l s)[k] d4 n4
    have hM:=Z76 (shB late) (shK late) (wtP Z.l s)[k] d4 n4
    generalize (wtP Z.l s)[k]=q at *
    subst e
    have a9:(k:Int) < ((wtP Z.l s).length:Int):=by omega
    have pm4:=H4.pm
    obtain⟨z0,z1,z2⟩:=H4.cells
    have t1:True:=trivial
    have t2:True:=trivial
    have t3:True:=trivial
    have t4:True:=trivial
    have t5:True:=trivial
    have t6:True:=trivial
    have t7:True:=trivial
    have t8:True:=trivial
    have t9:True:=trivial
    clear hcs iv4 z0 z2
    have hbig:(ids out).length+1≤1000000:=by have:=I.fl;unfold ids;simp;omega
    have key:∀ w5 w6 g5,wr.heap.size≤g5→Below wr.heap.size wr w5→Stp (fun x=>x=g5) w5 w6→Below wr.heap.size wr w6:=fun w5 w6 g5 h1 h2 h3=>
     ((Stp.of_below h2 (fun _=>False)).next h3 (fun x e=> .inr (by omega))).below (Nat.le_refl _) (fun x e=>e.elim)
    cases hh:held Z.l q with
    | true=>
      have hcc:(held Z.l q||late.any fun r=>meet r q)=true:=by rw [hh];rfl
      clear t5 t6
      go_wp2_with (first
       | (clear t1;refine Z1a 186 56 uPm _ zP (by rfl) _ _ (by rfl) mp f (by rfl) pm4 q.id (by rfl) hwq _ e4 ?_)
       | (clear t2;refine Z0t (by rfl) (by rfl) ?_;intro g5 w5 a5 a6 r5 b5)
       | (clear t3;refine Z0i (by rfl) _ _ (by rfl) g5 (by rfl) q d4 n4 (by rfl) _ r5 rfl ?_;intro w6 r6 s6;have b6:=key w5 w6 g5 a5 b5 s6;replace m4:=m4.later b6;replace H4:=H4.later b6;replace I:=I.later b6;clear r5 s6 b5 pm4 z1 ck)
       | (clear t4;refine Z0c (by rfl) _ (by rfl) g5 (by rfl) q d4 n4 r6 ?_)
       | (go_at_call 271;refine(Z6e H4 q d4 n4 m4.is hnq).mono ?_;rw [hh];rintro e w7 ⟨rfl,b7⟩;replace r6:=r6.later b7;replace I:=I.later b7;have cl:=I.cs)
       | (clear t7;refine Z3i 279 2 _ srtS (by rfl) _ (by rfl) g2 (by rfl) _ cl rfl ?_)
       | (clear t8;refine Z0c (by rfl) _ (by rfl) g5 (by rfl) q d4 n4 r6 ?_)
       | (go_at_call 211;refine(hW _ hsh.1 hsh.2 hfq m4.bs.len.symm).mono ?_;rw [hx1,hx2];rintro e w8 ⟨rfl,b8⟩;replace I:=I.later b8;have cl2:=I.cs)
       | (clear t9;refine Z1q 279 2 _ srtS (by rfl) _ _ (by rfl) g2 (by rfl) _ (by rfl) rfl (Z3a _ _) _ cl2 rfl ?_;intro w9 r9 s9;have I9:=nxL _ I hcc _ s9 r9;clear nxL nxM))
      go_roundw
      case rel=>exact⟨k+1,_,_,sv,by go_num,rfl,I9⟩
      case measure=>simp [intOf];omega
    | false=>
      cases hmm:mtS (shB late) (shK late) q with
      | true=>
        have hcc:(held Z.l q||late.any fun r=>meet r q)=true:=by rw [hh,← hmt,hmm];rfl
        go_wp2_with (first
         | (clear t1;refine Z1a 186 56 uPm _ zP (by rfl) _ _ (by rfl) mp f (by rfl) pm4 q.id (by rfl) hwq _ e4 ?_)
         | (clear t2;refine Z0t (by rfl) (by rfl) ?_;intro g5 w5 a5 a6 r5 b5)
         | (clear t3;refine Z0i (by rfl) _ _ (by rfl) g5 (by rfl) q d4 n4 (by rfl) _ r5 rfl ?_;intro w6 r6 s6;have b6:=key w5 w6 g5 a5 b5 s6;replace m4:=m4.later b6;replace H4:=H4.later b6;replace I:=I.later b6;clear r5 s6 b5 pm4 z1 ck)
         | (clear t4;refine Z0c (by rfl) _ (by rfl) g5 (by rfl) q d4 n4 r6 ?_)
         | (go_at_call 271;refine(Z6e H4 q d4 n4 m4.is hnq).mono ?_;rw [hh];rintro e w7 ⟨rfl,b7⟩;replace r6:=r6.later b7;replace I:=I.later b7;have cl:=I.cs)
         | (clear t5;refine Z3i 279 2 _ srtS (by rfl) _ (by rfl) g2 (by rfl) _ cl rfl ?_)
         | (clear t6;refine Z0c (by rfl) _ (by rfl) g5 (by rfl) q d4 n4 r6 ?_)
         | (go_at_call 210;refine(hM _ hsh.1 hsh.2 hfq m4.bs.len.symm).mono ?_;rw [hmm];rintro e wb ⟨rfl,bb⟩;clear cl;replace r6:=r6.later bb;replace I:=I.later bb;have cl:=I.cs)
         | (clear t7;refine Z3i 279 2 _ srtS (by rfl) _ (by rfl) g2 (by rfl) _ cl rfl ?_)
         | (clear t8;refine Z0c (by rfl) _ (by rfl) g5 (by rfl) q d4 n4 r6 ?_)
         | (go_at_call 211;refine(hW _ hsh.1 hsh.2 hfq m4.bs.len.symm).mono ?_;rw [hx1,hx2];rintro e w8 ⟨rfl,b8⟩;replace I:=I.later b8;have cl2:=I.cs)
         | (clear t9;refine Z1q 279 2 _ srtS (by rfl) _ _ (by rfl) g2 (by rfl) _ (by rfl) rfl (Z3a _ _) _ cl2 rfl ?_;intro w9 r9 s9;have I9:=nxL _ I hcc _ s9 r9;clear nxL nxM))
        go_roundw
        case rel=>exact⟨k+1,_,_,sv,by go_num,rfl,I9⟩
        case measure=>simp [intOf];omega
      | false=>
        have hcc:(held Z.l q||late.any fun r=>meet r q)=false:=by rw [hh,← hmt,hmm];rfl
        go_wp2_with (first
         | (clear t1;refine Z1a 186 56 uPm _ zP (by rfl) _ _ (by rfl) mp f (by rfl) pm4 q.id (by rfl) hwq _ e4 ?_)
         | (clear t2;refine Z0t (by rfl) (by rfl) ?_;intro g5 w5 a5 a6 r5 b5)
         | (clear t3;refine Z0i (by rfl) _ _ (by rfl) g5 (by rfl) q d4 n4 (by rfl) _ r5 rfl ?_;intro w6 r6 s6;have b6:=key w5 w6 g5 a5 b5 s6;replace m4:=m4.later b6;replace H4:=H4.later b6;replace I:=I.later b6;clear r5 s6 b5 pm4 z1 ck)
         | (clear t4;refine Z0c (by rfl) _ (by rfl) g5 (by rfl) q d4 n4 r6 ?_)
         | (go_at_call 271;refine(Z6e H4 q d4 n4 m4.is hnq).mono ?_;rw [hh];rintro e w7 ⟨rfl,b7⟩;replace r6:=r6.later b7;replace I:=I.later b7;have cl:=I.cs)
         | (clear t5;refine Z3i 279 2 _ srtS (by rfl) _ (by rfl) g2 (by rfl) _ cl rfl ?_)
         | (clear t6;refine Z0c (by rfl) _ (by rfl) g5 (by rfl) q d4 n4 r6 ?_)
         | (go_at_call 210;refine(hM _ hsh.1 hsh.2 hfq m4.bs.len.symm).mono ?_;rw [hmm];rintro e wb ⟨rfl,bb⟩;clear cl;replace r6:=r6.later bb;replace I:=I.later bb;have cl:=I.cs)
         | (at_builtin;refine Z2m elI w2.heap.size rfl _ _ (by rfl) (by rfl) (Z25 I.ow ((Below.refl _ wb).alloc (Nat.le_refl _) _)) I.nw (some ⟨wb.heap.size,0,none⟩) 1 [.int .i64 q.id] (by rfl) (by simp) (fun e=>by cases e) (fun ad e=>by injection e with e;subst e;exact cell_one_new _ _ _) (by simp [Value.oneCell']) hbig (Nat.le_trans I.bs (by simp)) ?_;intro v' w9 hA;have I9:=nxM _ I hcc v' _ w9 ((Below.refl _ wb).alloc (Nat.le_refl _) _) hA;obtain⟨xa,xn,xc,rfl⟩:=I9.ow.shape;clear nxL nxM hA))
        go_roundw
        case rel=>exact⟨k+1,_,_,⟨xa,xn,xc⟩,by go_num,rfl,I9⟩
        case measure=>simp [intOf];omega
  · have hk':k=(wtP Z.l s).length:=by have:=I.le;omega
    have e5:rdy Z.l s=ids out:=by unfold rdy;rw [I.run,List.drop_eq_nil_of_le (by omega),rdS,List.append_nil]
    have e5':Hid (rdy Z.l s=ids out):=e5
    clear e5
    subst hk'
    go_wp2
    go_returns
    refine⟨_,rfl,by rw [e5'.out];exact I.ow,fun r hr=>?_,I.b⟩
    have:=I.nw r hr;have:=b2.size;omega
section
variable {ops : Array Oper} {rest : List Oper} {o : Oper} {a : Act} {w : World} {Q : Exit → Act → World → Prop}
theorem Zl4 {b r:Nat} {f:Int→Option Value} {left:Int→Bool} {cnt:Nat} (hw:Region.wanted o (yielded ops a.tmps)=true) (x:Operand) (ho:o.op=Op.next x false)
 (hx:a.eval x= .pointer (some ⟨r,0,none⟩)) (h:RgI Tryz.prog 3 w b r f left cnt) (hsh:∀ k v,f k=some v→∃ (q:Pt) (d n:Sv),v= .agg (q.cs d n).toArray)
 (h0:(∀ k,left k=false)→wpList Tryz.prog ops Q rest (a.put o.dst (.tuple #[.bool false])) w)
 (h1 :∀ k q d n w' cnt',(Lit.int .i64 k).wf=true→left k=true→f k=some (.agg (Pt.cs q d n).toArray)→RgI Tryz.prog 3 w' b r f (fun x=>left x&& !decide (x=k)) cnt'→cnt' < cnt→Stp (fun x=>x=r) w w'→w'.heap.size=w.heap.size→
   (Instr.entry (.pointer (some ⟨r,0,none⟩))).run Tryz.prog w'= .ok (.tuple #[.int .i64 k, .agg (Pt.cs q d n).toArray]) w'→wpList Tryz.prog ops Q rest (a.put o.dst (.tuple #[.bool true, .int .i64 k, .agg (Pt.cs q d n).toArray])) w'):wpList Tryz.prog ops Q (o::rest) a w:=
 Z67 hw x ho hx h h0 (fun k v w' cnt' a1 a2 a3 a4 a5 a6 a7 a8=>by
  obtain⟨q,d,n,rfl⟩:=hsh k v a3
  exact h1 k q d n w' cnt' a1 a2 a3 a4 a5 a6 a7 a8)
end
theorem Z9q:∀ {a b:List Int},a.Pairwise (· < ·)→b.Pairwise (· < ·)→(∀ x,x ∈ a↔x ∈ b)→a=b
 | [], [],_,_,_=>rfl
 | [],y::s,_,_,h=>absurd ((h y).2 (by simp)) (by simp)
 | x::r, [],_,_,h=>absurd ((h x).1 (by simp)) (by simp)
 | x::r,y::s,ha,hb,h=>by
   rw [List.pairwise_cons]at ha hb
   have e:x=y:=by
    rcases List.mem_cons.1 ((h x).1 (by simp))with e | e
    · exact e
    · rcases List.mem_cons.1 ((h y).2 (by simp))with e2 | e2
      · exact e2.symm
      · have:=hb.1 x e;have:=ha.1 y e2;omega
   subst e
   congr 1
   refine Z9q ha.2 hb.2 fun z=>⟨fun hz=>?_,fun hz=>?_⟩
   · rcases List.mem_cons.1 ((h z).1 (List.mem_cons_of_mem _ hz))with e | e
     · have:=ha.1 z hz;omega
     · exact e
   · rcases List.mem_cons.1 ((h z).2 (List.mem_cons_of_mem _ hz))with e | e
     · have:=hb.1 z hz;omega
     · exact e
theorem Z8s:∀ (L K:List Int),L.Nodup→(∀ x ∈ L,x ∈ K)→L.length≤K.length
 | [],_,_,_=>Nat.zero_le _
 | a::t,K,hn,h=>by
   rw [List.nodup_cons]at hn
   have ha:a ∈ K:=h a (by simp)
   have:=Z8s t (K.erase a) hn.2 (fun x hx=>(List.mem_erase_of_ne (fun e:x=a=>hn.1 (by rw [← e];exact hx))).2 (h x (List.mem_cons_of_mem _ hx)))
   rw [List.length_erase_of_mem ha]at this
   have:=List.length_pos_of_mem ha
   simp only [List.length_cons];omega
def thP (l:List Pt) (q:Pt→Bool):List Pt:=l.filter q
def prI (l:List Pt) (q:Pt→Bool) (x:Int):Bool:=match fnd l x with | some p=>q p | none=>false
theorem Zpv {l:List Pt} (hs:l.Pairwise fun a b=>a.id < b.id) {q:Pt→Bool} {x:Int} :x ∈ ids (thP l q)↔prI l q x=true:=by
 unfold ids thP prI
 simp only [List.mem_map,List.mem_filter]
 constructor
 · rintro ⟨p,⟨h1,h2⟩,rfl⟩;rw [Z29 hs h1];exact h2
 · intro h
   cases hf:fnd l x with
   | none=>rw [hf]at h;cases h
   | some p=>rw [hf]at h;have:=Z1r hf;exact⟨p,⟨this.1,h⟩,this.2⟩
theorem Zcs {l:List Pt} (hs:l.Pairwise fun a b=>a.id < b.id) (q:Pt→Bool):(ids (thP l q)).Pairwise (· < ·):=by
 unfold ids thP;rw [List.pairwise_map];exact hs.filter _
structure ThI (w:World) (mp r:Nat) (l:List Pt) (q:Pt→Bool) (f:Int→Option Value) (v:Value) (wr:World) (left:Int→Bool) (cnt:Nat) (L:List Int):Prop where
 rg:RgI Tryz.prog 3 wr mp r f left cnt
 ow:OwV wr v L
 nw:New (r+1) v
 lt:r < wr.heap.size
 b:Below w.heap.size w wr
 nd:L.Nodup
 few:L.length≤l.length
 mem:∀ x,x ∈ L↔((f x).isSome=true∧left x=false∧prI l q x=true)
def Z1y (w:World) (F E:Nat→Prop) (fi:FuncId) (lb:Array Value) (q:Pt→Bool):Prop:=
 ∀ (u:World) (p:Pt) (d n:Sv),Stp F w u→PtM u E p d n→Calls Tryz.prog fi (#[.agg (p.cs d n).toArray]++lb) u fun e u'=>e= .returned (.bool (q p))∧Below u.heap.size u u'
set_option maxRecDepth 100000 in
set_option maxHeartbeats 4000000 in
theorem Zbr {w:World} {g mp mw:Nat} {f fw:Int→Option Value} {Z:GZ} {E F:Nat→Prop} (H:Gr w g mp mw f fw Z E F) (fi:FuncId) (lb:Array Value) (q:Pt→Bool) (hq:Z1y w F E fi lb q) (eg:∀ args w,(callFunc fi args).run Tryz.prog w= .ok (.enter fi args) w):
 Calls Tryz.prog 120 #[.pointer (some ⟨g,0,none⟩), .func (.func fi) #[] lb] w fun e w'=>∃ v,e= .returned v∧OwV w' v (ids (thP Z.l q))∧New w.heap.size v∧Below w.heap.size w w':=by
 obtain⟨z0,z1,z2⟩:=H.cells
 have hsh:∀ k v,f k=some v→∃ (q:Pt) (d n:Sv),v= .agg (q.cs d n).toArray:=fun k v hv=>by
  cases hl:fnd Z.l k with
  | none=>rw [H.pn k hl]at hv;cases hv
  | some q=>
    obtain⟨d,n,h1,_⟩:=H.ps k q hl
    rw [h1]at hv;injection hv with hv;exact⟨q,d,n,hv.symm⟩
 have hfk:∀ x,prI Z.l q x=true→(f x).isSome=true:=fun x hx=>by
  unfold prI at hx
  cases hl:fnd Z.l x with
  | none=>rw [hl]at hx;cases hx
  | some p=>
    obtain⟨d,n,h1,_⟩:=H.ps x p hl
    rw [h1];rfl
 have hfew:=H.ok.few
 have tok:True:=trivial
 go_enter Tryz.func120,Tryz.ntmps120
 go_wp2_with (first
  | (clear tok;refine Z51 (by rfl) _ (by rfl) (by rfl) (Z6h H.pm uPm) ?_;rintro w2 ⟨cnt,hrg,hk2,hz2⟩))
 go_frame
 obtain⟨r,hr⟩:∃ r,r=w.heap.size:=⟨_,rfl⟩
 rw [← hr]at hrg ⊢
 have start:ThI w mp r Z.l q f (.slice none 0 0) w2 (fun k=>(f k).isSome) cnt []:=
  ⟨hrg,OwV.nil w2,(fun x hx=>by cases hx),by omega,hk2.below (Nat.le_refl _) (fun _ e=>e.elim),List.nodup_nil,Nat.zero_le _,fun x=>⟨fun h=>(by cases h),fun⟨h1,h2,_⟩=>by rw [h1]at h2;cases h2⟩⟩
 have hwr:w.heap.size≤r:=by omega
 clear hrg hz2 hk2 hr z0 z1 z2
 go_loopw [5] (fun v wr=>∃ left cnt L,ThI w mp r Z.l q f v wr left cnt L) (fun _ wr=>wr.rangeLeft mp r)
 case atStart=>exact⟨_,_,_,start⟩
 case round=>
  clear start
  obtain⟨left,cnt,L,I⟩:=hrel
  have come:∀ k p d n w3,f k=some (.agg (Pt.cs p d n).toArray)→Stp (fun x=>x=r) wr w3→∃ p':Pt,∃ d' n':Sv,Pt.cs p d n=Pt.cs p' d' n'∧fnd Z.l k=some p'∧PtM w3 E p' d' n'∧Below w.heap.size w w3:=fun k p d n w3 hf hs3=>by
   have B3:Below w.heap.size w w3:=((Stp.of_below I.b (fun _=>False)).next hs3 (fun x e=> .inr (by omega))).below (Nat.le_refl _) (fun x e=>e.elim)
   cases hl:fnd Z.l k with
   | none=>rw [H.pn k hl]at hf;cases hf
   | some p'=>
     obtain⟨d',n',h1,h2⟩:=(H.later B3).ps k p' hl
     rw [h1]at hf;injection hf with hf;injection hf with hf
     exact⟨p',d',n',by have:=congrArg Array.toList hf;simpa using this.symm,rfl,h2,B3⟩
  have t1:True:=trivial
  have t2:True:=trivial
  have t3:True:=trivial
  have t4:True:=trivial
  go_wp2_with (first
   | (clear t1;refine Zl4 (by rfl) _ (by rfl) (by rfl) I.rg hsh (fun hl=>?_) (fun k p d n w3 cnt3 hwf hlk hfk3 hrg3 hc3 hs3 hz3 hen=>?_)
      rotate_left
      have hzz:Hid (w3.heap.size=wr.heap.size):=hz3
      obtain⟨p',d',n',ep,hp,m3,B3⟩:=come k p d n w3 hfk3 hs3
      rw [ep]at hen hfk3 ⊢
      clear ep p d n hz3)
   | (clear t2;refine Z0t (by rfl) (by rfl) ?_;intro g5 w5 a5 a6 r5 b5)
   | (clear t3;refine Z0i (by rfl) _ _ (by rfl) g5 (by rfl) p' d' n' (by rfl) _ r5 rfl ?_;intro w6 r6 s6)
   | (clear t4;refine Z0c (by rfl) _ (by rfl) g5 (by rfl) p' d' n' r6 ?_))
  · have B6:Below w3.heap.size w3 w6:=((Stp.of_below b5 (fun _=>False)).next s6 (fun x e=> .inr (by omega))).below (Nat.le_refl _) (fun x e=>e.elim)
    refine(hq w6 p' d' n' (Stp.of_below (Z01 B3 B6 (Nat.le_refl _)) F) (m3.later B6)).mono ?_
    rintro e w7 ⟨rfl,b7⟩
    have B7:=Z01 B6 b7 (Nat.le_refl _)
    have B70:=Z01 B3 B7 (Nat.le_refl _)
    have hrg7:=hrg3.step (Stp.of_below B7 (fun _=>False)) id id
    have o7:OwV w7 u5 L:=(I.ow.step hs3 (fun x hx e=>by have:=I.nw x hx;omega)).later B7
    have hlt7:r < w7.heap.size:=by have:=B7.size;have:=hzz.out;have:=I.lt;omega
    have hpk:prI Z.l q k=q p':=by unfold prI;rw [hp]
    have hmem:=Z1r hp
    clear b5 s6 r6 m3 b7 B6 r5 hen hrg3 hfk3
    cases hc:q p' with
    | false=>
      go_wp2_with fail
      go_roundw
      case rel=>
       refine⟨_,_,L,hrg7,o7,I.nw,hlt7,B70,I.nd,I.few,fun x=>?_⟩
       rw [I.mem]
       constructor
       · rintro ⟨a1,a2,a3⟩;exact⟨a1,by simp [a2],a3⟩
       · rintro ⟨a1,a2,a3⟩
         refine⟨a1,?_,a3⟩
         by_cases e:x=k
         · subst e;rw [hpk,hc]at a3;cases a3
         · simpa [e]using a2
      case measure=>rw [hrg7.left_eq,I.rg.left_eq];omega
    | true=>
      have b8:Below w7.heap.size w7 (w7.alloc (.cells #[.int .i64 k] 3)):=(Below.refl _ w7).alloc (Nat.le_refl _) _
      have hkL:k ∉ L:=fun h=>by have:=((I.mem k).1 h).2.1;rw [hlk]at this;cases this
      have hnd:(L++ [k]).Nodup:=by
       rw [List.nodup_append]
       exact⟨I.nd,by simp,fun a ha b hb e=>hkL (by rw [List.mem_singleton]at hb;rw [← hb,← e];exact ha)⟩
      have hfewL:(L++ [k]).length≤Z.l.length:=by
       have :=Z8s (L++ [k]) (ids Z.l) hnd (fun x hx=>by
        rcases List.mem_append.1 hx with hx | hx
        · have h3:=((I.mem x).1 hx).2.2
          unfold prI at h3
          cases hf:fnd Z.l x with
          | none=>rw [hf]at h3;cases h3
          | some p=>have:=Z1r hf;exact List.mem_map.2 ⟨p,this.1,this.2⟩
        · rw [List.mem_singleton]at hx;exact List.mem_map.2 ⟨p',hmem.1,by rw [hx];exact hmem.2⟩)
       simpa [ids]using this
      have hbig:L.length+1≤1000000:=by simp at hfewL;omega
      have hzB:r+1≤(w7.alloc (.cells #[.int .i64 k] 3)).heap.size:=by simp;omega
      go_wp2_with (first
       | (at_builtin;refine Z2m elI (r+1) rfl _ _ (by rfl) (by rfl) (Z25 o7 b8) I.nw (some ⟨w7.heap.size,0,none⟩) 1 [.int .i64 k] (by rfl) (by simp) (fun e=>by cases e) (fun ad e=>by injection e with e;subst e;exact cell_one_new _ _ _) (by simp [Value.oneCell']) hbig hzB ?_;intro v9 w9 hA))
      obtain⟨h1,h2,h3,h4,_⟩:=hA
      have s9:Stp (fun x=>u5.ownBlock=some x) w7 w9:=(Stp.of_below b8 _).trans h4
      have hrg9:=hrg7.step s9 (fun e=>o7.map_ne hrg7.mp e) (fun e=>by have:=I.nw r e;omega)
      go_roundw
      case rel=>
       refine⟨_,_,L++ [k],hrg9,?_,h2,Nat.lt_of_lt_of_le hlt7 s9.size,((Stp.of_below B70 (fun _=>False)).next s9 (fun x e=> .inr (by have:=I.nw x e;omega))).below (Nat.le_refl _) (fun _ h=>h.elim),hnd,hfewL,fun x=>?_⟩
       · unfold OwV;simpa using h1
       · rw [List.mem_append,I.mem,List.mem_singleton]
         constructor
         · rintro (⟨a1,a2,a3⟩ | rfl)
           · exact⟨a1,by simp [a2],a3⟩
           · exact⟨hfk _ (by rw [hpk,hc]),by simp,by rw [hpk,hc]⟩
         · rintro ⟨a1,a2,a3⟩
           by_cases e:x=k
           · exact .inr e
           · exact .inl ⟨a1,by simpa [e]using a2,a3⟩
      case measure=>rw [hrg9.left_eq,I.rg.left_eq];omega
  · refine(Zn0 I.ow (by have:=I.few;omega)).mono ?_
    rintro e w4 ⟨rfl,o4,s4⟩
    go_wp2_with fail
    go_returns
    refine⟨_,rfl,?_,fun x hx=>by have:=I.nw x hx;omega,((Stp.of_below I.b (fun _=>False)).next s4 (fun x e=> .inr (by have:=I.nw x e;omega))).below (Nat.le_refl _) (fun _ h=>h.elim)⟩
    have e:Go.Proofs.YtogdffonjhghcaaGreatDoor.srt L=ids (thP Z.l q):=by
     refine Z9q (Zhj L I.nd) (Zcs H.ok.srt q) fun x=>?_
     rw [Zpq,I.mem,Zpv H.ok.srt]
     exact⟨fun h=>h.2.2,fun h=>⟨hfk x h,hl x,h⟩⟩
    rw [← e];exact o4
set_option maxRecDepth 100000 in
set_option maxHeartbeats 1000000 in
theorem Zkd (w:World) (F E:Nat→Prop):Z1y w F E 121 #[] (fun _=>true):=by
 intro u p d n hu hm
 have tok:True:=trivial
 show Calls Tryz.prog _ #[.agg (p.cs d n).toArray] u _
 go_enter Tryz.func121,Tryz.ntmps121
 go_wp2_with (first | (clear tok;refine Z0g (by rfl) _ (by rfl) p d n (by rfl) ?_;intro g1 w1 a1 a2 r1 b1))
 go_returns
 exact⟨rfl,b1⟩
set_option maxRecDepth 100000 in
set_option maxHeartbeats 1000000 in
theorem Zhk (w:World) (F E:Nat→Prop):Z1y w F E 225 #[] (fun _=>true):=by
 intro u p d n hu hm
 have tok:True:=trivial
 show Calls Tryz.prog _ #[.agg (p.cs d n).toArray] u _
 go_enter Tryz.func225,Tryz.ntmps225
 go_wp2_with (first | (clear tok;refine Z0g (by rfl) _ (by rfl) p d n (by rfl) ?_;intro g1 w1 a1 a2 r1 b1))
 go_returns
 exact⟨rfl,b1⟩
set_option maxRecDepth 100000 in
set_option maxHeartbeats 1000000 in
theorem Zc1 (w:World) (F E:Nat→Prop):Z1y w F E 122 #[] (fun p=>p.wr):=by
 intro u p d n hu hm
 have tok:True:=trivial
 show Calls Tryz.prog _ #[.agg (p.cs d n).toArray] u _
 go_enter Tryz.func122,Tryz.ntmps122
 go_wp2_with (first | (clear tok;refine Z0g (by rfl) _ (by rfl) p d n (by rfl) ?_;intro g1 w1 a1 a2 r1 b1;have c8:=(Pt.cells r1).2.2.2.2.2.2.2.2))
 go_returns
 exact⟨rfl,b1⟩
theorem Zib:∀ args w,(callFunc 121 args).run Tryz.prog w= .ok (.enter 121 args) w:=enters_of Tryz.func121 (by kernel_rfl) rfl
theorem Zbx:∀ args w,(callFunc 122 args).run Tryz.prog w= .ok (.enter 122 args) w:=enters_of Tryz.func122 (by kernel_rfl) rfl
set_option maxRecDepth 100000 in
set_option maxHeartbeats 1000000 in
theorem Z32 {w:World} {g mp mw:Nat} {f fw:Int→Option Value} {Z:GZ} {E F:Nat→Prop} (H:Gr w g mp mw f fw Z E F):
 Calls Tryz.prog 58 #[.pointer (some ⟨g,0,none⟩)] w fun e w'=>∃ v,e= .returned v∧OwV w' v (ids (thP Z.l fun _=>true))∧New w.heap.size v∧Below w.heap.size w w':=by
 have hT:=Zbr H 121 #[] _ (Zkd w F E) Zib
 go_enter Tryz.func58,Tryz.ntmps58
 go_wp2_with (first | (go_at_call 120;refine hT.mono ?_;rintro e w1 ⟨v,rfl,h1,h2,h3⟩))
 go_returns
 exact⟨v,rfl,h1,h2,h3⟩
set_option maxRecDepth 100000 in
set_option maxHeartbeats 1000000 in
theorem Z5k {w:World} {g mp mw:Nat} {f fw:Int→Option Value} {Z:GZ} {E F:Nat→Prop} (H:Gr w g mp mw f fw Z E F):
 Calls Tryz.prog 60 #[.pointer (some ⟨g,0,none⟩)] w fun e w'=>∃ v,e= .returned v∧OwV w' v (ids (thP Z.l fun p=>p.wr))∧New w.heap.size v∧Below w.heap.size w w':=by
 have hT:=Zbr H 122 #[] _ (Zc1 w F E) Zbx
 go_enter Tryz.func60,Tryz.ntmps60
 go_wp2_with (first | (go_at_call 120;refine hT.mono ?_;rintro e w1 ⟨v,rfl,h1,h2,h3⟩))
 go_returns
 exact⟨v,rfl,h1,h2,h3⟩
end Go.Proofs.YtogdffonjhghcaaGreatDoor
