/-
  Texts of my own, joined: no statement is proved here.
-/
import Derived.Test.YtogdffonjhghcaaGreatDoorJaw
set_option linter.unusedSimpArgs false
set_option linter.unusedVariables false
namespace Go.Proofs.YtogdffonjhghcaaGreatDoor
open Go.ChangeShapes Go.WideShapes Go.ChangeAt Go.RowKit
theorem GZ.ok.filt {Z:GZ} {t:Int} (h:Z.ok t) (q:Pt→Bool):(GZ.mk Z.last (Z.l.filter q)).ok t:=
 ⟨h.srt.filter _,fun p hp=>h.rng p ((List.mem_filter.1 hp).1),fun p hp=>h.ft p ((List.mem_filter.1 hp).1),fun p hp=>h.nds p ((List.mem_filter.1 hp).1),fun p hp=>h.wf p ((List.mem_filter.1 hp).1),h.l0,h.lt⟩
theorem Zcj (l:List Pt) (i k:Int):fnd (l.filter fun r=> !(r.id==i)) k=if k=i then none else fnd l k:=by
 unfold fnd
 rw [List.find?_filter]
 by_cases e:k=i
 · subst e
   rw [if_pos rfl]
   refine List.find?_eq_none.2 fun p _=>?_
   simp
 · rw [if_neg e]
   congr 1
   funext p
   by_cases e2:p.id=k
   · simp [e2,e]
   · simp [e2]
theorem Z61 {l:List Pt} (hs:l.Pairwise fun a b=>a.id < b.id) {p r:Pt} (hp:p ∈ l) (hr:r ∈ l) (e:r.id=p.id):r=p:=by
 have h1:=Z29 hs hp
 have h2:=Z29 hs hr
 rw [e,h1]at h2;injection h2 with h2;exact h2.symm
theorem Zn9 {l:List Pt} (hs:l.Pairwise fun a b=>a.id < b.id) {p:Pt} (hp:p ∈ l) (hw:p.wr=true) (s:Int):wtP (l.filter fun r=> !(r.id==p.id)) s=wtP l s:=by
 unfold wtP
 rw [List.filter_filter]
 refine List.filter_congr fun r hr=>?_
 by_cases e:r.id=p.id
 · rw [Z61 hs hp hr e];simp [inS,hw]
 · simp [e]
theorem Gr.gone {w w':World} {g mp mw:Nat} {f fw:Int→Option Value} {Z:GZ} {E F:Nat→Prop} (H:Gr w g mp mw f fw Z E F) {p:Pt} (hp:p ∈ Z.l) (hw:p.wr=true) (k:Stp (fun x=>x=mp) w w') (hm:MpI Tryz.prog 3 w' mp (upd f p.id none)):
 Gr w' g mp mw (upd f p.id none) fw ⟨Z.last,Z.l.filter fun r=> !(r.id==p.id)⟩ E F:=by
 have hne:∀ x,E x→x≠mp:=fun x hx e=>H.ef x hx (e▸H.fm)
 have hW:∀ s,wts (Z.l.filter fun r=> !(r.id==p.id)) s=wts Z.l s:=fun s=>by unfold wts;rw [Zn9 H.ok.srt hp hw]
 refine⟨H.c.step k (H.c.notMap H.pm),hm,H.wm.step k (fun e=>H.ne e.symm),fun i q hq=>?_,fun i hi=>?_,fun s hs=>?_,fun s hs=>?_,H.ap,H.fg,H.fm,H.fw',H.ne,fun x hx=>Nat.lt_of_lt_of_le (H.lt x hx) k.size,fun x hx=>Nat.lt_of_lt_of_le (H.el x hx) k.size,H.ef,H.ok.filt _⟩
 · simp only at hq
   rw [Zcj]at hq
   unfold upd
   by_cases e:i=p.id
   · rw [if_pos e]at hq;cases hq
   · rw [if_neg e]at hq ⊢
     obtain⟨d,n,h1,h2⟩:=H.ps i q hq
     exact⟨d,n,h1,h2.step k hne⟩
 · simp only at hi
   rw [Zcj]at hi
   unfold upd
   by_cases e:i=p.id
   · rw [if_pos e]
   · rw [if_neg e]at hi ⊢;exact H.pn i hi
 · simp only at hs ⊢
   rw [hW]at hs ⊢
   obtain⟨v,h1,h2,h3⟩:=H.ws s hs
   exact⟨v,h1,h2.step k (fun r hr e=>h2.map_ne H.pm (by rw [hr,e])),h3⟩
 · simp only at hs
   rw [hW]at hs
   exact H.wn s hs
def dnL (l:List Pt) (q:Pt→Bool) (k:Nat):List Pt:=l.filter fun p=> !(p.wr&&q p&&(ids ((thP l (·.wr)).take k)).contains p.id)
section
variable {l : List Pt} {q : Pt → Bool} {k : Nat}
theorem Zct (hk:k < (thP l (·.wr)).length):ids ((thP l (·.wr)).take (k+1))=ids ((thP l (·.wr)).take k)++ [((thP l (·.wr))[k]).id]:=by
 rw [List.take_add_one,List.getElem?_eq_getElem hk];unfold ids;rw [List.map_append];rfl
theorem Zoa:dnL l q 0=l:=by
 unfold dnL
 exact List.filter_eq_self.2 fun p _=>by simp [ids]
theorem Zqi (hs:l.Pairwise fun a b=>a.id < b.id) (hk:k < (thP l (·.wr)).length) (hq:q (thP l (·.wr))[k]=true):dnL l q (k+1)=(dnL l q k).filter fun r=> !(r.id==((thP l (·.wr))[k]).id):=by
 have hm:=List.mem_filter.1 (List.getElem_mem hk)
 unfold dnL
 rw [List.filter_filter,Zct hk]
 refine List.filter_congr fun r hr=>?_
 by_cases e:r.id=((thP l (·.wr))[k]).id
 · have:=Z61 hs hm.1 hr e
   have h1:r.wr=true:=by rw [this];exact hm.2
   have h2:q r=true:=by rw [this];exact hq
   have h3:(ids (List.take k (thP l (·.wr)))++ [((thP l (·.wr))[k]).id]).contains r.id=true:=by rw [e];simp
   rw [h1,h2,h3,e];simp
 · have h4:(ids (List.take k (thP l (·.wr)))++ [((thP l (·.wr))[k]).id]).contains r.id=(ids (List.take k (thP l (·.wr)))).contains r.id:=by
    rw [Bool.eq_iff_iff];simp [e]
   rw [h4]
   have:(r.id==((thP l (·.wr))[k]).id)=false:=by simpa using e
   rw [this];simp
theorem Zrs (hs:l.Pairwise fun a b=>a.id < b.id) (hk:k < (thP l (·.wr)).length) (hq:q (thP l (·.wr))[k]=false):dnL l q (k+1)=dnL l q k:=by
 have hm:=List.mem_filter.1 (List.getElem_mem hk)
 unfold dnL
 rw [Zct hk]
 refine List.filter_congr fun r hr=>?_
 by_cases e:r.id=((thP l (·.wr))[k]).id
 · have:=Z61 hs hm.1 hr e
   have h2:q r=false:=by rw [this];exact hq
   rw [h2];simp
 · have h4:(ids (List.take k (thP l (·.wr)))++ [((thP l (·.wr))[k]).id]).contains r.id=(ids (List.take k (thP l (·.wr)))).contains r.id:=by
    rw [Bool.eq_iff_iff];simp [e]
   rw [h4]
theorem Zqg (hk:(thP l (·.wr)).length≤k):dnL l q k=l.filter fun p=> !(p.wr&&q p):=by
 unfold dnL
 rw [List.take_of_length_le hk]
 refine List.filter_congr fun r hr=>?_
 cases hw:r.wr
 · simp
 · have :(ids (thP l (·.wr))).contains r.id=true:=by
    simp only [List.contains_iff_mem]
    exact List.mem_map.2 ⟨r,List.mem_filter.2 ⟨hr,hw⟩,rfl⟩
   rw [this];simp
theorem Zqh (hs:l.Pairwise fun a b=>a.id < b.id) (hk:k < (thP l (·.wr)).length):(thP l (·.wr))[k] ∈ dnL l q k:=by
 have hm:=List.mem_filter.1 (List.getElem_mem hk)
 unfold dnL
 refine List.mem_filter.2 ⟨hm.1,?_⟩
 have hp:(ids (thP l (·.wr))).Pairwise (· < ·):=Zcs hs _
 have :(ids ((thP l (·.wr)).take k)).contains ((thP l (·.wr))[k]).id=false:=by
  rw [Bool.eq_false_iff]
  intro h
  simp only [List.contains_iff_mem]at h
  obtain⟨r,hr,he⟩:=List.mem_map.1 h
  have hpw:(thP l (·.wr)).Pairwise fun a b=>a.id < b.id:=hs.filter _
  rw [← List.take_append_drop k (thP l (·.wr)),List.pairwise_append]at hpw
  have:=hpw.2.2 r hr ((thP l (·.wr))[k]) (by rw [List.drop_eq_getElem_cons hk];exact List.mem_cons_self)
  omega
 rw [this];simp
def dnN (l:List Pt) (q:Pt→Bool) (k:Nat):Nat:=(((thP l (·.wr)).take k).filter q).length
theorem Zll (hk:k < (thP l (·.wr)).length):dnN l q (k+1)=dnN l q k+if q (thP l (·.wr))[k]then 1 else 0:=by
 unfold dnN
 rw [List.take_add_one,List.getElem?_eq_getElem hk,List.filter_append,List.length_append]
 congr 1
 simp only [Option.toList_some,List.filter_cons,List.filter_nil]
 split<;>rfl
theorem Zqf:dnN l q k≤k:=by
 unfold dnN
 exact Nat.le_trans (List.length_filter_le _ _) (List.length_take_le _ _)
theorem Zo9 (hk:(thP l (·.wr)).length≤k):dnN l q k=(l.filter fun p=>p.wr&&q p).length:=by
 unfold dnN
 rw [List.take_of_length_le hk]
 unfold thP
 rw [List.filter_filter]
 congr 1
 refine List.filter_congr fun r _=>?_
 exact Bool.and_comm _ _
end
def Gh (w:World) (g:Nat) (Z:GZ) (E F:Nat→Prop):Prop:=∃ mp mw f fw,Gr w g mp mw f fw Z E F
set_option maxRecDepth 100000 in
set_option maxHeartbeats 4000000 in
theorem Z39 {w:World} {g mp mw:Nat} {f fw:Int→Option Value} {Z:GZ} {E F:Nat→Prop} (H:Gr w g mp mw f fw Z E F) (fi:FuncId) (lb:Array Value) (q:Pt→Bool) (hq:Z1y w F E fi lb q) (eg:∀ args w,(callFunc fi args).run Tryz.prog w= .ok (.enter fi args) w):
 Calls Tryz.prog 224 #[.pointer (some ⟨g,0,none⟩), .func (.func fi) #[] lb] w fun e w'=>e= .returned (.int .i64 (Z.stlN q))∧Gh w' g (Z.stl q) E F∧Stp F w w':=by
 have hWr:=Z5k H
 have hfew:=H.ok.few
 have hlen:(thP Z.l (·.wr)).length≤Z.l.length:=List.length_filter_le _ _
 have hwf:∀ x ∈ ids (thP Z.l (·.wr)),wfi x:=fun x hx=>by
  obtain⟨p,hp,rfl⟩:=List.mem_map.1 hx
  exact(H.ok.wfp (List.mem_filter.1 hp).1).i
 go_enter Tryz.func224,Tryz.ntmps224
 go_wp2_with (first | (go_at_call 60;refine hWr.mono ?_;rintro e w1 ⟨v,rfl,o1,n1,b1⟩;obtain⟨⟨va,vn,vc⟩,e0,hvn,iv,ie⟩:=o1.ins hwf n1;have e1:v= .slice va vn vc:=e0;have hvn':vn=(thP Z.l (·.wr)).length:=(by simp only at hvn;rw [hvn];simp [ids]);clear hvn e0;subst hvn';subst e1))
 clear hWr
 go_loopw [5,11] (fun y x wr=>∃ (k:Nat) (f':Int→Option Value),k≤(thP Z.l (·.wr)).length∧x= .int .i64 (k:Int)∧y= .int .i64 (dnN Z.l q k:Int)∧Gr wr g mp mw f' fw ⟨Z.last,dnL Z.l q k⟩ E F∧Stp F w1 wr) (fun _ x _=>(thP Z.l (·.wr)).length - (intOf x).toNat)
 case atStart=>
  refine⟨0,f,Nat.zero_le _,rfl,rfl,?_,Stp.refl _ _⟩
  rw [Zoa];exact H.later b1
 case round=>
  obtain⟨k,f',hk,rfl,rfl,H4,st⟩:=hrel
  have sw:Stp F w wr:=(Stp.of_below b1 F).trans st
  by_cases hkl:k < (thP Z.l (·.wr)).length
  · have iv4:InsS wr ⟨va,(thP Z.l (·.wr)).length,vc⟩ (ids (thP Z.l (·.wr))):=iv.step st ie (fun x hx e=>by have:=H.lt x e;omega)
    obtain⟨b,o,e,hcs⟩:=iv4.i.cell (by simp only;omega)
    have ck:=hcs k (by simp only;omega)
    have hget:(ids (thP Z.l (·.wr))).getD k 0=((thP Z.l (·.wr))[k]).id:=by
     unfold ids;rw [List.getD_eq_getElem?_getD,List.getElem?_map,List.getElem?_eq_getElem hkl];rfl
    rw [hget]at ck
    simp only at e
    have hmem:=List.mem_filter.1 (List.getElem_mem hkl)
    have hin:=Zqh (q:=q) H.ok.srt hkl
    obtain⟨d4,n4,e4,m4,_⟩:=H4.look ((thP Z.l (·.wr))[k]).id
    rw [show gt (GZ.mk Z.last (dnL Z.l q k)).l ((thP Z.l (·.wr))[k]).id=(thP Z.l (·.wr))[k]from H4.ok.gt_of hin]at e4 m4
    have hwq:=(H.ok.wfp hmem.1).i
    have hys:=Zqi (q:=q) H.ok.srt hkl
    have hno:=Zrs (q:=q) H.ok.srt hkl
    have hN:=Zll (q:=q) hkl
    have hgone:=fun w5=>H4.gone (w':=w5) hin hmem.2
    have hdn:=Zqf (l:=Z.l) (q:=q) (k:=k)
    generalize (thP Z.l (·.wr))[k]=p at *
    subst e
    have a9:(k:Int) < ((thP Z.l (·.wr)).length:Int):=by omega
    have pm4:=H4.pm
    obtain⟨z0,z1,z2⟩:=H4.cells
    have t1:True:=trivial
    clear hcs iv4 z0 z2 hget
    have hCall:=hq wr p d4 n4 sw m4
    go_wp2_with (first
     | (clear t1;refine Z1a 186 56 uPm _ zP (by rfl) _ _ (by rfl) mp f' (by rfl) pm4 p.id (by rfl) hwq _ e4 ?_))
    refine hCall.mono ?_
    rintro e w7 ⟨rfl,b7⟩
    have H7:=H4.later b7
    have s7:Stp F w1 w7:=st.trans (Stp.of_below b7 F)
    obtain⟨z0,z1,z2⟩:=H7.cells
    have pm7:=H7.pm
    clear hCall pm4 z0 z2 ck
    cases hc:q p with
    | false=>
      rw [if_neg (by rw [hc];simp)]at hN
      have hN':Hid (dnN Z.l q (k+1)=dnN Z.l q k+0):=hN
      have hL':Hid (dnL Z.l q (k+1)=dnL Z.l q k):=hno hc
      clear hN hno hys
      go_wp2_with fail
      go_roundw
      case rel=>exact⟨k+1,f',by omega,by go_num,by rw [hN'.out];rfl,by rw [hL'.out];exact H7,s7⟩
      case measure=>simp [intOf];omega
    | true=>
      rw [if_pos hc]at hN
      have hN':Hid (dnN Z.l q (k+1)=dnN Z.l q k+1):=hN
      have hL':Hid (dnL Z.l q (k+1)=(dnL Z.l q k).filter fun r=> !(r.id==p.id)):=hys hc
      clear hN hno hys
      have t2:True:=trivial
      go_wp2_with (first
       | (clear t2;refine Z3r (t:=186) (by rfl) _ _ (by rfl) (by rfl) (by rfl) (fun ty=>pm7.drop u3 uPm hwq ty) ?_;rintro w8 ⟨d5,d6⟩))
      go_roundw
      case rel=>exact⟨k+1,upd f' p.id none,by omega,by go_num,by rw [hN'.out];go_num,by rw [hL'.out];exact H7.gone hin hmem.2 (Z0a d6) d5,s7.next (Z0a d6) (fun x e=> .inl (by rw [e];exact H.fm))⟩
      case measure=>simp [intOf];omega
  · have hk':k=(thP Z.l (·.wr)).length:=by omega
    have hN':Hid (dnN Z.l q k=(Z.l.filter fun p=>p.wr&&q p).length):=Zo9 (by omega)
    have hL':Hid (dnL Z.l q k=Z.l.filter fun p=> !(p.wr&&q p)):=Zqg (by omega)
    subst hk'
    go_wp2
    go_returns
    refine⟨Z3l ?_,⟨mp,mw,f',fw,?_⟩,sw⟩
    · rw [hN'.out];rfl
    · have:=H4;rw [hL'.out]at this;exact this
theorem Zgg:∀ args w,(callFunc 225 args).run Tryz.prog w= .ok (.enter 225 args) w:=enters_of Tryz.func225 (by kernel_rfl) rfl
set_option maxRecDepth 100000 in
set_option maxHeartbeats 1000000 in
theorem Zc0 {w:World} {g mp mw:Nat} {f fw:Int→Option Value} {Z:GZ} {E F:Nat→Prop} (H:Gr w g mp mw f fw Z E F):
 Calls Tryz.prog 151 #[.pointer (some ⟨g,0,none⟩)] w fun e w'=>e= .returned (.int .i64 (Z.stlN fun _=>true))∧Gh w' g (Z.stl fun _=>true) E F∧Stp F w w':=by
 have hT:=Z39 H 225 #[] _ (Zhk w F E) Zgg
 go_enter Tryz.func151,Tryz.ntmps151
 go_wp2_with (first | (go_at_call 224;refine hT.mono ?_;rintro e w1 ⟨rfl,h2,h3⟩))
 go_returns
 exact⟨rfl,h2,h3⟩
theorem Zia:∀ (L:List Int) (x:Int),L.Pairwise (· < ·)→x ∈ L→L.countP (· < x) < L.length∧L.take (L.countP (· < x))++L.drop (L.countP (· < x)+1)=L.filter fun y=> !(y==x)
 | [],x,_,h=>by cases h
 | a::t,x,hs,h=>by
   rw [List.pairwise_cons]at hs
   by_cases e:a=x
   · subst e
     have h0:t.countP (· < a)=0:=List.countP_eq_zero.2 fun y hy=>by have:=hs.1 y hy;simp;omega
     have hf:t.filter (fun y=> !(y==a))=t:=List.filter_eq_self.2 fun y hy=>by have:=hs.1 y hy;simp;omega
     have h1:(a::t).countP (· < a)=0:=by rw [List.countP_cons,h0];simp
     rw [h1]
     refine⟨by simp,?_⟩
     simp [hf]
   · have hx:x ∈ t:=by
      rcases List.mem_cons.1 h with h | h
      · exact absurd h.symm e
      · exact h
     have hlt:=hs.1 x hx
     obtain⟨i1,i2⟩:=Zia t x hs.2 hx
     have h1:(a::t).countP (· < x)=t.countP (· < x)+1:=by rw [List.countP_cons];simp [hlt]
     rw [h1]
     refine⟨by simp only [List.length_cons];omega,?_⟩
     have e':(a==x)=false:=by simpa using e
     rw [List.take_succ_cons,List.drop_succ_cons,List.cons_append,i2,List.filter_cons,e'];rfl
theorem Z9s {w:World} {v:Value} {l:List Int} (h:OwV w v l) (x:Int) (hl:l.length≤1000000) (hs:l.Pairwise (· < ·)) (hn:l≠ []):
 Calls Tryz.prog 270 #[v, .int .i64 x] w fun e w'=>e= .returned (.tuple #[.int .i64 (l.countP (· < x):Nat), .bool (l.contains x)])∧Below w.heap.size w w':=by
 obtain⟨g,cap,cur,rfl,hw⟩:=h.row1 hn
 have:=Any.slices_BinarySearch_int lays25 g 0 l.length cap l x w (Nat.le_refl _) (by omega) (fun j hj=>by rw [Nat.zero_add];exact hw.cell j hj) (by rw [List.take_length];exact hs.imp (fun h=>Int.le_of_lt h))
 rw [List.take_length]at this
 refine Calls.mono this ?_
 rintro e w' ⟨rfl,q,rfl⟩
 exact⟨rfl,Zea w q⟩
def Wtd (w w':World) (mw:Nat) (fw:Int→Option Value) (s:Int) (v:Value) (L':List Int):Prop:=
 ∃ fw',MpI Tryz.prog 3 w' mw fw'∧Stp (fun x=>x=mw∨v.ownBlock=some x) w w'∧((L'= []∧fw'=upd fw s none)∨(L'≠ []∧∃ v',fw'=upd fw s (some v')∧OwV w' v' L'∧v'.ownBlock=v.ownBlock))
set_option maxRecDepth 100000 in
set_option maxHeartbeats 4000000 in
theorem Zaz {w:World} {g mp mw:Nat} {fw:Int→Option Value} {last:Int} {L:List Int} (p:Pt) (d n sv:Sv) (hc:Cs w g [.int .i64 last, .map (some mp), .map (some mw)]) (wm:MpI Tryz.prog 3 w mw fw) (hv:fw p.at'=some (.slice sv.a sv.n sv.c)) (ow:OwV w (.slice sv.a sv.n sv.c) L)
 (hs:L.Pairwise (· < ·)) (hp:p.id ∈ L) (hl:L.length≤1000000) (hk:∀ k,(fw k).isSome→0≤k∧k < 2048) (hwf:wfi p.at') (hg:(Value.slice sv.a sv.n sv.c).ownBlock≠some g):
 Calls Tryz.prog 310 #[.pointer (some ⟨g,0,none⟩), .agg (p.cs d n).toArray] w fun e w'=>e= .returned (.tuple #[])∧Wtd w w' mw fw p.at' (.slice sv.a sv.n sv.c) (L.filter fun y=> !(y==p.id)):=by
 obtain⟨sa,sn,sc⟩:=sv
 simp only at hv ow hg ⊢
 have hne:L≠ []:=fun e=>by rw [e]at hp;cases hp
 obtain⟨k1,k2⟩:=Zia L p.id hs hp
 have hsn:sn=L.length:=by
  obtain⟨r,cap,cur,e,_⟩:=ow.row1 hne
  injection e
 subst hsn
 have tok:True:=trivial
 go_enter Tryz.func310,Tryz.ntmps310
 go_wp2_with (first | (clear tok;refine Z0g (by rfl) _ (by rfl) p d n (by rfl) ?_;intro g1 w1 a1 a2 r1 b1))
 have hc1:=hc.later b1
 have wm1:=wm.later b1
 have hv':(fw p.at').getD (.slice none 0 0)= .slice sa L.length sc:=by rw [hv];rfl
 refine wp_region_held_drew (S:=fun u=>Below w1.heap.size w1 u) (by kernel_rfl) (Below.refl _ _).drew (fun hHeld=>?_)
 refine tl 0 (.pointer (some ⟨g,0,none⟩)) rfl ?_
 try simp only [z]
 refine tl 1 (.pointer (some ⟨g,0,none⟩)) rfl ?_
 try simp only [z]
 refine tl 2 (.pointer (some ⟨g,2,none⟩)) rfl ?_
 try simp only [z]
 refine tl 3 (.map (some mw)) rfl ?_ (fun u hu=>by have x1:=(hc1.later hu).cell 2 _ rfl;go_simp)
 try simp only [z]
 refine tl 4 (.pointer (some ⟨g1,1,none⟩)) rfl ?_
 try simp only [z]
 refine tl 5 (.int .i64 p.at') rfl ?_ (fun u hu=>by have x1:=(Pt.cells (r1.later hu)).2.1;go_simp)
 try simp only [z]
 refine tm 6 (.slice sa L.length sc) rfl
  (Z31 187 54 uWm _ zI (by rfl) _ _ (by rfl) mw fw (by rfl) p.at' (by rfl) hwf (fun u hu=>wm1.later hu) _ hv') ?_
 try simp only [z]
 refine tl 7 (.slice sa L.length sc) rfl ?_
 try simp only [z]
 refine wpAnyH_done (by kernel_rfl) ?_ _
 have hc2:=hc1.later hHeld
 have wm2:=wm1.later hHeld
 have r2:=r1.later hHeld
 have b2:=Z01 b1 hHeld (Nat.le_refl _)
 have ow2:=ow.later b2
 generalize w1.drew=w2 at *
 clear hc1 wm1 r1 hHeld
 by_cases h1:L.length=1
 · have e1:L.filter (fun y=> !(y==p.id))= []:=by
    rw [← k2]
    have:L.countP (· < p.id)=0:=by omega
    rw [this]
    simp [List.drop_eq_nil_of_le,h1]
   have h1':(L.length:Int)=1:=by omega
   have h1'':Hid (L.length=1):=h1
   clear h1 k1 k2 hl
   go_wp2_with fail
   refine Z0n (S:=fun u=>Below w2.heap.size w2 u) _ _ (by simp only [List.pop_toArray,List.dropLast_cons_cons,List.dropLast_singleton];rfl) (by simp only [List.back?_toArray,List.getLast?_cons_cons,List.getLast?_singleton];rfl) (by kernel_rfl) (by kernel_rfl) (Below.refl _ _).drew (fun hHeld=>?_)
   refine tl 0 (.pointer (some ⟨g,0,none⟩)) rfl ?_
   try simp only [z]
   refine tl 1 (.pointer (some ⟨g,0,none⟩)) rfl ?_
   try simp only [z]
   refine tl 2 (.pointer (some ⟨g,2,none⟩)) rfl ?_
   try simp only [z]
   refine tl 3 (.map (some mw)) rfl ?_ (fun u hu=>by have x1:=(hc2.later hu).cell 2 _ rfl;go_simp)
   try simp only [z]
   refine tl 4 (.pointer (some ⟨g1,1,none⟩)) rfl ?_
   try simp only [z]
   refine tl 5 (.int .i64 p.at') rfl ?_ (fun u hu=>by have x1:=(Pt.cells (r2.later hu)).2.1;go_simp)
   try simp only [z]
   refine wpAnyH_done (by kernel_rfl) ?_ _
   have wm3:=wm2.later hHeld
   have b3:=Z01 b2 hHeld (Nat.le_refl _)
   generalize w2.drew=w3 at *
   show wpList _ _ _ [_] _ _
   refine Z3r (t:=187) (by rfl) _ _ (by rfl) (by rfl) (by rfl) (fun ty=>wm3.drop u3 uWm hwf ty) ?_
   rintro w4 ⟨d5,d6⟩
   go_wp2_with fail
   first | go_end0 | refine bodyPost_ret (results_none rfl _ _ _) rfl ?_
   exact⟨rfl,_,d5,(Stp.of_below b3 _).next (Z0a d6) (fun x e=> .inl (.inl e)), .inl ⟨e1,rfl⟩⟩
 · have h1':¬(L.length:Int)=1:=by omega
   have hS:=fun u (hu:Below w2.heap.size w2 u)=>Z9s (ow2.later hu) p.id hl hs hne
   have hD:=fun u (hu:Below w2.heap.size w2 u)=>Z69 (ow2.later hu) (L.countP (· < p.id)) k1
   rw [k2]at hD
   have hne2:L.filter (fun y=> !(y==p.id))≠ []:=fun e=>by
    rw [e]at k2
    have h5:(L.take (L.countP (· < p.id))++L.drop (L.countP (· < p.id)+1)).length=L.length - 1:=by
     rw [List.length_append,List.length_take,List.length_drop];omega
    rw [k2]at h5
    simp only [List.length_nil]at h5
    omega
   have hkb:(L.countP (· < p.id):Int)+1≤1000000:=by omega
   generalize hL0:L.filter (fun y=> !(y==p.id))=L' at *
   have hLe:Hid (L.filter (fun y=> !(y==p.id))=L'):=hL0
   clear hL0
   clear k2
   generalize L.countP (· < p.id)=kk at *
   obtain⟨cc0,cc1,cc2,cc3,cc4,cc5,cc6,cc7,cc8⟩:=Pt.cells r2
   clear cc2 cc3 cc4 cc5 cc6 cc7 cc8 cc1
   have hk':Hid (∀ k,(fw k).isSome→0≤k∧k < 2048):=hk
   have hD':Hid (∀ u,Below w2.heap.size w2 u→Calls Tryz.prog 189 #[.slice sa L.length sc, .int .i64 (kk:Int), .int .i64 ((kk:Int)+1)] u fun e w'=>∃ v',e= .returned v'∧OwV w' v' L'∧v'.ownBlock=(Value.slice sa L.length sc).ownBlock∧Stp (fun x=>(Value.slice sa L.length sc).ownBlock=some x) u w'):=hD
   have hne2':Hid (L'≠ []):=hne2
   obtain⟨bb,hbb⟩:∃ bb,bb=L.contains p.id:=⟨_,rfl⟩
   have hS':Hid (∀ u,Below w2.heap.size w2 u→Calls Tryz.prog 270 #[.slice sa L.length sc, .int .i64 p.id] u fun e w'=>e= .returned (.tuple #[.int .i64 (kk:Int), .bool bb])∧Below u.heap.size u w'):=by rw [hbb];exact hS
   clear hS hbb
   have hkb':Hid (IntKind.i64.wrap ((kk:Int)+1)=(kk:Int)+1):=by show _=_;rw [IntKind.wrap_i64];omega
   clear hkb k1 hl
   clear hk hD hne2 hs hp hv hv' hne
   go_wp2_with (first
    | (go_at_call 270;refine(hS'.out _ (Below.refl _ _)).mono ?_;rintro e w3 ⟨rfl,b3⟩))
   have hc3:=hc2.later b3
   have wm3:=wm2.later b3
   have r3:=r2.later b3
   have b9:=Z01 b2 b3 (Nat.le_refl _)
   have ow3:=ow2.later b3
   have hDk:=hD'.out w3.drew (Z01 (Below.refl _ _) ((b3).drew) (Nat.le_refl _))
   have hg1:(Value.slice sa L.length sc).ownBlock≠some g1:=fun e=>by
    have:=ow.lt e
    omega
   have hmw:=ow3.map_ne wm3
   have hkb2:=hkb'.out
   refine Z0n (S:=fun u=>Stp (fun x=>(Value.slice sa L.length sc).ownBlock=some x) w3 u) _ _ (by simp only [List.pop_toArray,List.dropLast_cons_cons,List.dropLast_singleton];rfl) (by simp only [List.back?_toArray,List.getLast?_cons_cons,List.getLast?_singleton];rfl) (by kernel_rfl) (by kernel_rfl) (Stp.refl _ _).drew (fun hHeld=>?_)
   refine tl 0 (.pointer (some ⟨g,0,none⟩)) rfl ?_
   try simp only [z]
   refine tl 1 (.pointer (some ⟨g,0,none⟩)) rfl ?_
   try simp only [z]
   refine tl 2 (.pointer (some ⟨g,2,none⟩)) rfl ?_
   try simp only [z]
   refine tl 3 (.map (some mw)) rfl ?_ (fun u hu=>by have x1:=(hc3.step hu hg).cell 2 _ rfl;go_simp)
   try simp only [z]
   refine tl 4 (.pointer (some ⟨g1,1,none⟩)) rfl ?_
   try simp only [z]
   refine tl 5 (.int .i64 p.at') rfl ?_ (fun u hu=>by have x1:=(Pt.cells (r3.step hu hg1)).2.1;go_simp)
   try simp only [z]
   refine tl 6 (.slice sa L.length sc) rfl ?_
   try simp only [z]
   refine tl 7 (.int .i64 (kk:Int)) rfl ?_
   try simp only [z]
   refine tl 8 (.int .i64 (kk:Int)) rfl ?_
   try simp only [z]
   refine tl 9 (.int .i64 ((kk:Int)+1)) rfl ?_
   try simp only [z]
   refine rd 10 rfl (fun K hK=>?_)
   go_simp
   refine hDk.mono ?_
   rintro e w4 ⟨v',rfl,o4,e4,s4⟩
   try go_wp2_with fail
   have s40:=(Stp.refl (fun x=>(Value.slice sa L.length sc).ownBlock=some x) w3).drew.trans s4
   refine hK.out _ _ (s40) (fun hHeld=>?_)
   clear hK K
   try simp only [z]
   refine wpAnyH_done (by kernel_rfl) ?_ _
   show wpList _ _ _ [_] _ _
   refine Z3j 187 54 uWm (by rfl) _ _ _ (by rfl) mw fw (by rfl) p.at' (by rfl) v' (by rfl) (wm3.step s40 hmw) hk'.out hwf ?_
   intro w5 m5 t5
   go_wp2_with fail
   first | go_end0 | refine bodyPost_ret (results_none rfl _ _ _) rfl ?_
   rw [hLe.out]
   refine⟨rfl,_,m5,((Stp.of_below b9 _).next s40 (fun x e=> .inl (.inr e))).next t5 (fun x e=> .inl (.inl e)), .inr ⟨hne2'.out,v',rfl,?_,e4⟩⟩
   exact o4.step t5 (fun r hr e=>hmw (by rw [← e4,hr,e]))
end Go.Proofs.YtogdffonjhghcaaGreatDoor
