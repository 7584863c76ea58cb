/-
  Texts of my own, joined: no statement is proved here.
-/
import Derived.Test.YtogdffonjhghcaaGreatDoorJbe
set_option linter.unusedSimpArgs false
set_option linter.unusedVariables false
namespace Go.Proofs.YtogdffonjhghcaaGreatDoor
open Go.ChangeShapes Go.WideShapes Go.ChangeAt Go.RowKit
def Z99 (w:World) (fi:FuncId) (lb:Array Value) (l:List Int) (q:Int→Bool):Prop:=
 ∀ (u:World) (x:Int),x ∈ l→Below w.heap.size w u→Calls Tryz.prog fi (#[.int .i64 x]++lb) u fun e u'=>e= .returned (.bool (q x))∧Below u.heap.size u u'
theorem Zn5 {l:List Int} {k:Nat} {q:Int→Bool} (h:(l.take k).any q=true):l.any q=true:=by
 rw [← List.take_append_drop k l,List.any_append,h];rfl
set_option maxRecDepth 100000 in
set_option maxHeartbeats 2000000 in
theorem Zbz {w:World} {s:Sv} {l:List Int} (h:InsS w s l) (hm:l.length≤1000000) (fi:FuncId) (lb:Array Value) (q:Int→Bool) (hq:Z99 w fi lb l q) (eg:∀ args w,(callFunc fi args).run Tryz.prog w= .ok (.enter fi args) w):
 Calls Tryz.prog 274 #[.slice s.a s.n s.c, .func (.func fi) #[] lb] w fun e w'=>∃ i,e= .returned (.int .i64 i)∧decide (0≤i)=l.any q∧Below w.heap.size w w':=by
 have hl:=h.i.len
 obtain⟨na,nn,nc⟩:=s
 go_enter Tryz.func274,Tryz.ntmps274
 go_wp2_with fail
 go_loopw [8] (fun v wr=>∃ k:Nat,k≤l.length∧v= .int .i64 (k:Int)∧Below w.heap.size w wr∧(l.take k).any q=false) (fun v _=>l.length - (intOf v).toNat)
 case atStart=>exact⟨0,Nat.zero_le _,rfl,Below.refl _ _,rfl⟩
 case round=>
  obtain⟨k,hk,rfl,hb,hn⟩:=hrel
  by_cases hlt:k < l.length
  · have h2:=h.later hb
    obtain⟨b,o,e,hcs⟩:=h2.i.cell (by simp only at hl ⊢;omega)
    have ck:=hcs k (by simp only at hl ⊢;omega)
    simp only at e
    subst e
    have hT:Hid ((l.take (k+1)).any q=q (l.getD k 0)):=by
     show _=_
     rw [List.take_add_one,List.getElem?_eq_getElem hlt,List.any_append,hn,List.getD_eq_getElem?_getD,List.getElem?_eq_getElem hlt];simp
    have hmem:l.getD k 0 ∈ l:=by rw [List.getD_eq_getElem?_getD,List.getElem?_eq_getElem hlt];exact List.getElem_mem _
    clear hcs h2 hn
    generalize l.getD k 0=y at *
    have a3:(k:Int) < (nn:Int):=by omega
    go_wp2_with fail
    refine(hq wr y hmem hb).mono ?_
    rintro e w7 ⟨rfl,b7⟩
    have B7:=Z01 hb b7 (Nat.le_refl _)
    cases hc:q y with
    | true=>
      go_wp2_with fail
      go_returns
      refine⟨_,rfl,?_,B7⟩
      rw [Zn5 (k:=k+1) (by rw [hT.out,hc])];simp
    | false=>
      go_wp2_with fail
      go_roundw
      case rel=>exact⟨k+1,by omega,by go_num,B7,by rw [hT.out,hc]⟩
      case measure=>simp [intOf];omega
  · have hk':k=l.length:=by omega
    subst hk'
    rw [List.take_length]at hn
    have hn':Hid (l.any q=false):=hn
    clear hn
    go_wp2_with fail
    go_returns
    exact⟨_,rfl,by rw [hn'.out];simp,hb⟩
set_option maxRecDepth 100000 in
set_option maxHeartbeats 2000000 in
theorem Z4n {w:World} {s:Sv} {l:List Int} (h:InsS w s l) (hm:l.length≤1000000) (fi:FuncId) (lb:Array Value) (q:Int→Bool) (hq:Z99 w fi lb l q) (eg:∀ args w,(callFunc fi args).run Tryz.prog w= .ok (.enter fi args) w):
 Calls Tryz.prog 218 #[.slice s.a s.n s.c, .func (.func fi) #[] lb] w fun e w'=>e= .returned (.bool (l.any q))∧Below w.heap.size w w':=by
 have hI:=Zbz h hm fi lb q hq eg
 go_enter Tryz.func218,Tryz.ntmps218
 go_wp2_with (first | (go_at_call 274;refine hI.mono ?_;rintro e w7 ⟨i,rfl,ei,b7⟩;have ei':Hid (decide (0≤i)=l.any q):=ei;clear ei))
 go_returns
 exact⟨Z0s (by rw [← ei'.out]),b7⟩
def bsS (is:List Int) (l:List Pt):List Int:=(secs l).filter fun s=>(rdy l s).any fun x=>(ids (nd is l)).contains x
def frS (L:List Int) (l:List Pt):Bool:=decide (L.length=1)&&(thP l (·.wr)).all fun p=>decide (p.at'=L.headD 0)
def GZ.cr (Z:GZ):List Int→GZ
 | []=>Z
 | s::r=>(Z.wr (rdy Z.l s)).cr r
def GZ.crO (Z:GZ):List Int→List Int
 | []=> []
 | s::r=>rdy Z.l s++(Z.wr (rdy Z.l s)).crO r
def GZ.car (Z:GZ) (L:List Int):GZ:=(Z.cr L).stl fun _=>true
def setO (l:List Pt) (O:List Int):List Pt:=l.map fun p=>if O.contains p.id then { p with wr:=true} else p
theorem Zdo (l:List Pt):setO l []=l:=by
 unfold setO
 conv=>rhs;rw [← List.map_id l]
 exact List.map_congr_left fun p _=>by simp
theorem Zdn (l:List Pt) (A B:List Int):setO (setO l A) B=setO l (A++B):=by
 unfold setO
 rw [List.map_map]
 refine List.map_congr_left fun p _=>?_
 have:(A++B).contains p.id=(A.contains p.id||B.contains p.id):=by rw [Bool.eq_iff_iff];simp [List.contains_iff_mem]
 rw [this]
 cases hA:A.contains p.id<;>cases hB:B.contains p.id<;>simp only [Function.comp_apply,hA,hB,Bool.or_false,Bool.or_true,Bool.false_eq_true,if_true,if_false]
theorem Zms (l:List Pt) (i:Int):setW l i=setO l [i]:=by
 unfold setO setW
 exact List.map_congr_left fun p _=>by by_cases e:p.id=i<;>simp [e]
theorem Zmr (l:List Pt) (O:List Int):ids (setO l O)=ids l:=by
 unfold ids setO
 rw [List.map_map]
 exact List.map_congr_left fun p _=>by simp only [Function.comp];split<;>rfl
theorem Zmq (l:List Pt) (O:List Int) (i:Int):has (setO l O) i=has l i:=by rw [Z7u,Zmr,← Z7u]
theorem Zk6 (l:List Pt) (O:List Int) (p:Pt):held (setO l O) p=held l p:=by
 unfold held;congr 1;funext i;exact Zmq l O i
theorem Z8y {l:List Pt} {O:List Int} {q:Pt} :q ∈ setO l O↔∃ p ∈ l,q=if O.contains p.id then { p with wr:=true} else p:=by
 unfold setO
 rw [List.mem_map]
 constructor
 · rintro ⟨p,h1,h2⟩;exact⟨p,h1,h2.symm⟩
 · rintro ⟨p,h1,h2⟩;exact⟨p,h1,h2.symm⟩
theorem Zpj {l:List Pt} {O:List Int} {q:Pt} (h:q ∈ setO l O) (hw:q.wr=false):q ∈ l∧O.contains q.id=false:=by
 obtain⟨p,h1,h2⟩:=Z8y.1 h
 by_cases e:O.contains p.id=true
 · rw [if_pos e]at h2;rw [h2]at hw;cases hw
 · rw [if_neg e]at h2;subst h2;exact⟨h1,by simpa using e⟩
theorem Zpi {l:List Pt} {O:List Int} {q:Pt} (h:q ∈ l) (hO:O.contains q.id=false):q ∈ setO l O:=Z8y.2 ⟨q,h,by rw [if_neg (by rw [hO];simp)]⟩
theorem Z7g {l:List Pt} (h:Rise l) (O:List Int):Rise (setO l O):=by
 unfold Rise setO
 rw [List.pairwise_map]
 refine h.imp fun {a b} hab=>?_
 split<;>split<;>exact hab
theorem Zg4:∀ (L:List Int) (Z:GZ),Z.wrE L=0→(Z.wr L).l=setO Z.l L∧(Z.wr L).last=Z.last
 | [],Z,_=>⟨(Zdo _).symm,rfl⟩
 | i::r,Z,h=>by
   have h1:wE Z.l i=0:=by
    refine Decidable.byContradiction fun e=>?_
    unfold GZ.wrE at h;rw [if_neg e]at h;exact e h
   unfold GZ.wrE at h;rw [if_pos h1]at h
   have e1:(Z.wr1 i).l=setW Z.l i∧(Z.wr1 i).last=Z.last:=by unfold GZ.wr1;rw [if_pos h1];exact⟨rfl,rfl⟩
   have ih:=Zg4 r (Z.wr1 i) h
   unfold GZ.wr;rw [if_pos h1,ih.1,ih.2,e1.1,e1.2,Zms,Zdn]
   exact⟨rfl,rfl⟩
theorem Ze5 {Z:GZ} (h:Rise Z.l) (s:Int):(Z.wr (rdy Z.l s)).l=setO Z.l (rdy Z.l s)∧(Z.wr (rdy Z.l s)).last=Z.last:=Zg4 _ _ (Z50 Z h s)
theorem Z7p:∀ (L:List Int) (Z:GZ),Rise Z.l→(Z.cr L).l=setO Z.l (Z.crO L)∧(Z.cr L).last=Z.last
 | [],Z,_=>⟨(Zdo _).symm,rfl⟩
 | s::r,Z,h=>by
   have e:=Ze5 h s
   have ih:=Z7p r (Z.wr (rdy Z.l s)) (by rw [e.1];exact Z7g h _)
   unfold GZ.cr GZ.crO
   rw [ih.1,ih.2,e.2,e.1,Zdn]
   exact⟨rfl,rfl⟩
def lft (O:List Int) (p:Pt):Bool:= !p.wr&& !O.contains p.id
theorem Zi6 (Z:GZ) (h:Rise Z.l) (L:List Int):(Z.car L).l=Z.l.filter (lft (Z.crO L))∧(Z.car L).last=Z.last:=by
 refine⟨?_,(Z7p L Z h).2⟩
 unfold GZ.car GZ.stl
 simp only
 rw [(Z7p L Z h).1]
 generalize Z.crO L=O
 generalize Z.l=l
 induction l with
 | nil=>rfl
 | cons a t ih=>
   have e:setO (a::t) O=(if O.contains a.id then { a with wr:=true} else a)::setO t O:=by unfold setO;rw [List.map_cons]
   rw [e,List.filter_cons,List.filter_cons,ih]
   unfold lft
   cases h1:O.contains a.id<;>cases h2:a.wr<;>simp [h1,h2]
theorem Z77 (l:List Pt):∀ (W late:List Pt),Rise W→∀ p ∈ rdS l late W,held l p=false∧(∀ a ∈ late,meet a p=false)∧∀ a ∈ W,a.id < p.id→meet a p=true→a ∈ rdS l late W
 | [],late,_,p,h=>by cases h
 | b::r,late,hR,p,h=>by
   unfold Rise at hR
   rw [List.pairwise_cons]at hR
   unfold rdS at h ⊢
   split at h
   · rename_i hc
     rw [if_pos hc]
     obtain⟨h1,h2,h3⟩:=Z77 l r (late++ [b]) hR.2 p h
     refine⟨h1,fun a ha=>h2 a (by simp [ha]),fun a ha hlt hm=>?_⟩
     rcases List.mem_cons.1 ha with rfl | ha
     · have:=h2 a (by simp);rw [hm]at this;cases this
     · exact h3 a ha hlt hm
   · rename_i hc
     rw [if_neg hc]
     have hc1:held l b=false∧late.any (fun q=>meet q b)=false:=by simpa using hc
     rcases List.mem_cons.1 h with rfl | h
     · refine⟨hc1.1,fun a ha=>?_,fun a ha hlt hm=>?_⟩
       · have:=List.any_eq_false.1 hc1.2 a ha
         simpa using this
       · rcases List.mem_cons.1 ha with rfl | ha
         · omega
         · have:=hR.1 a ha;omega
     · obtain⟨h1,h2,h3⟩:=Z77 l r late hR.2 p h
       refine⟨h1,h2,fun a ha hlt hm=>?_⟩
       rcases List.mem_cons.1 ha with rfl | ha
       · exact List.mem_cons_self
       · exact List.mem_cons_of_mem _ (h3 a ha hlt hm)
theorem Z2p {l:List Pt} {x:Int} :x ∈ ids l↔∃ p ∈ l,p.id=x:=by unfold ids;exact List.mem_map
theorem Z78 {l:List Pt} (hs:Rise l) {s x:Int} (h:x ∈ rdy l s):∃ p ∈ l,p.id=x∧p.at'=s∧p.wr=false∧held l p=false∧∀ a ∈ l,a.id < p.id→a.wr=false→meet a p=true→a.id ∈ rdy l s:=by
 obtain⟨p,hp,hx⟩:=Z2p.1 h
 have hW:Rise (wtP l s):=hs.filter _
 obtain⟨h1,_,h3⟩:=Z77 l (wtP l s) [] hW p hp
 obtain⟨q1,q2,q3⟩:=Z0y.1 (Zap l _ _ p hp)
 refine⟨p,q1,hx,q2,q3,h1,fun a ha hlt hw hm=>?_⟩
 exact Z2p.2 ⟨a,h3 a (Z0y.2 ⟨ha,(Zfg hm).trans q2,hw⟩) hlt hm,rfl⟩
theorem Zdc (l:List Pt) (p:Pt) (hh:held l p=false):∀ (W late:List Pt),p ∈ W→Rise W→(∀ a ∈ late,meet a p=false)→(∀ a ∈ W,a.id < p.id→meet a p=false)→p ∈ rdS l late W
 | [],_,h,_,_,_=>by cases h
 | b::r,late,h,hR,h1,h2=>by
   unfold Rise at hR
   rw [List.pairwise_cons]at hR
   unfold rdS
   rcases List.mem_cons.1 h with rfl | h
   · have:late.any (fun q=>meet q p)=false:=List.any_eq_false.2 (fun a ha=>by rw [h1 a ha];simp)
     rw [if_neg (by rw [hh,this];simp)]
     exact List.mem_cons_self
   · have hlt:=hR.1 p h
     split
     · refine Zdc l p hh r (late++ [b]) h hR.2 (fun a ha=>?_) (fun a ha=>h2 a (by simp [ha]))
       rcases List.mem_append.1 ha with ha | ha
       · exact h1 a ha
       · rw [List.mem_singleton.1 ha];exact h2 b (by simp) hlt
     · exact List.mem_cons_of_mem _ (Zdc l p hh r late h hR.2 h1 (fun a ha=>h2 a (by simp [ha])))
theorem Zjh {l:List Pt} (hs:Rise l) {p:Pt} (hp:p ∈ l) (hw:p.wr=false) (hh:held l p=false) (h:∀ a ∈ l,a.id < p.id→a.wr=false→meet a p=false):p.id ∈ rdy l p.at':=by
 refine Z2p.2 ⟨p,Zdc l p hh _ [] (Z0y.2 ⟨hp,rfl,hw⟩) (hs.filter _) (fun a ha=>by cases ha) (fun a ha hlt=>?_),rfl⟩
 obtain⟨q1,q2,q3⟩:=Z0y.1 ha
 exact h a q1 hlt q3
theorem Zi9:∀ (L:List Int) (Z:GZ),Rise Z.l→∀ p ∈ Z.l,p.wr=false→held Z.l p=false→(∀ a ∈ Z.l,a.id < p.id→a.wr=false→meet a p=false)→p.at' ∈ L→p.id ∈ Z.crO L
 | [],Z,_,p,_,_,_,_,h=>by cases h
 | s::r,Z,hs,p,hp,hw,hh,ha,h=>by
   unfold GZ.crO
   by_cases hx:p.id ∈ rdy Z.l s
   · exact List.mem_append.2 (.inl hx)
   · rcases List.mem_cons.1 h with h | h
     · rw [← h]at hx;exact absurd (Zjh hs hp hw hh ha) hx
     · have e:=(Ze5 hs s).1
       refine List.mem_append.2 (.inr (Zi9 r (Z.wr (rdy Z.l s)) (by rw [e];exact Z7g hs _) p (by rw [e];exact Zpi hp (by simpa [List.contains_iff_mem]using hx)) hw (by rw [e,Zk6];exact hh) (fun a hq hlt hw'=>?_) h))
       rw [e]at hq
       exact ha a (Zpj hq hw').1 hlt hw'
theorem Zn7 {is:List Int} {c c':List Pt} (h:∀ q ∈ c,q ∈ c') {a:Pt} (hw:wnt is c a=true):wnt is c' a=true:=by
 unfold wnt at hw ⊢
 rw [Bool.or_eq_true]at hw ⊢
 rcases hw with hw | hw
 · exact .inl hw
 · obtain⟨q,h1,h2⟩:=List.any_eq_true.1 hw
   exact .inr (List.any_eq_true.2 ⟨q,h q h1,h2⟩)
theorem Z5w (is:List Int) (P:Pt→Bool):∀ l:List Pt,(nd is (l.filter P)).Sublist ((nd is l).filter P)
 | []=>List.Sublist.refl _
 | a::t=>by
   have ih:=Z5w is P t
   rw [List.filter_cons]
   have mono:∀ q ∈ nd is (t.filter P),q ∈ nd is t:=fun q hq=>(List.mem_filter.1 (ih.subset hq)).1
   by_cases hP:P a=true
   · rw [if_pos hP,nd,nd]
     by_cases h1:wnt is (nd is (t.filter P)) a=true
     · rw [if_pos h1,if_pos (Zn7 mono h1),List.filter_cons,if_pos hP]
       exact ih.cons_cons a
     · rw [if_neg h1]
       split
       · rw [List.filter_cons,if_pos hP];exact ih.cons a
       · exact ih
   · rw [if_neg hP,nd]
     split
     · rw [List.filter_cons,if_neg hP];exact ih
     · exact ih
theorem Z8q (is:List Int):∀ l:List Pt,Rise l→∀ p ∈ nd is l,∀ a ∈ l,a.id < p.id→(p.needs.contains a.id||(!p.wr&& !a.wr&&meet a p))=true→a ∈ nd is l
 | [],_,p,h,_,_,_,_=>by cases h
 | b::t,hR,p,h,a,ha,hlt,hc=>by
   unfold Rise at hR
   rw [List.pairwise_cons]at hR
   have hpt:p ∈ nd is t:=by
    rw [nd]at h
    split at h
    · rcases List.mem_cons.1 h with rfl | h
      · rcases List.mem_cons.1 ha with rfl | ha
        · omega
        · have:=hR.1 a ha;omega
      · exact h
    · exact h
   rw [nd]
   rcases List.mem_cons.1 ha with rfl | ha
   · have :wnt is (nd is t) a=true:=by
      unfold wnt
      rw [Bool.or_eq_true]
      exact .inr (List.any_eq_true.2 ⟨p,hpt,hc⟩)
     rw [if_pos this]
     exact List.mem_cons_self
   · have:=Z8q is t hR.2 p hpt a ha hlt hc
     split
     · exact List.mem_cons_of_mem _ this
     · exact this
theorem Z7x (is:List Int):∀ l:List Pt,Rise l→Rise (nd is l)
 | [],_=>List.Pairwise.nil
 | a::t,h=>by
   unfold Rise at h
   rw [List.pairwise_cons]at h
   rw [nd]
   split
   · exact List.Pairwise.cons (fun q hq=>h.1 q (Z4t is t q hq)) (Z7x is t h.2)
   · exact Z7x is t h.2
theorem Zoj {l:List Pt} {i:Int} (h:has l i=true):∃ q ∈ l,q.id=i:=by
 unfold has at h
 obtain⟨q,h1,h2⟩:=List.any_eq_true.1 h
 exact⟨q,h1,by simpa using h2⟩
theorem Zgi {Z:GZ} {t:Int} (hok:Z.ok t) {is:List Int} {p:Pt} {r:List Pt} (e:nd is Z.l=p::r):lft (Z.crO (bsS is Z.l)) p=false:=by
 have hs:Rise Z.l:=hok.srt
 have hp:p ∈ nd is Z.l:=by rw [e];simp
 have hpl:=Z4t is Z.l p hp
 have hmin:∀ a ∈ nd is Z.l,¬a.id < p.id:=by
  intro a ha hlt
  have hr:=Z7x is Z.l hs
  rw [e]at ha hr
  unfold Rise at hr
  rw [List.pairwise_cons]at hr
  rcases List.mem_cons.1 ha with rfl | ha
  · omega
  · have:=hr.1 a ha;omega
 unfold lft
 cases hw:p.wr with
 | true=>rfl
 | false=>
   have hh:held Z.l p=false:=by
    unfold held
    rw [List.any_eq_false]
    intro x hx h
    obtain⟨q,h1,h2⟩:=Zoj h
    have h3:=hok.nds p hpl x hx
    exact hmin q (Z8q is Z.l hs p hp q h1 (by omega) (by rw [h2];simp [hx])) (by omega)
   have ha:∀ a ∈ Z.l,a.id < p.id→a.wr=false→meet a p=false:=by
    intro a h1 h2 h3
    cases hm:meet a p with
    | false=>rfl
    | true=>exact absurd h2 (hmin a (Z8q is Z.l hs p hp a h1 h2 (by simp [hw,h3,hm])))
   have hin:p.at' ∈ bsS is Z.l:=by
    refine List.mem_filter.2 ⟨Z6l.2 fun e'=>?_,List.any_eq_true.2 ⟨p.id,Zjh hs hpl hw hh ha,?_⟩⟩
    · have hm:p.id ∈ wts Z.l p.at':=Z2b.2 ⟨p,hpl,rfl,rfl,hw⟩
      rw [e']at hm;cases hm
    · rw [List.contains_iff_mem];exact Z2p.2 ⟨p,hp,rfl⟩
   have:=Zi9 (bsS is Z.l) Z hs p hpl hw hh ha hin
   have h2:(Z.crO (bsS is Z.l)).contains p.id=true:=by rw [List.contains_iff_mem];exact this
   rw [h2];rfl
theorem Zlh {Z:GZ} {t:Int} (hok:Z.ok t) {is:List Int} (h:nd is Z.l≠ []):(nd is (Z.car (bsS is Z.l)).l).length < (nd is Z.l).length:=by
 obtain⟨p,r,e⟩:=List.exists_cons_of_ne_nil h
 have h1:=Zgi hok e
 rw [(Zi6 Z hok.srt _).1]
 have h2:=(Z5w is (lft (Z.crO (bsS is Z.l))) Z.l).length_le
 refine Nat.lt_of_le_of_lt h2 ?_
 rw [List.length_filter_lt_length_iff_exists]
 exact⟨p,by rw [e];simp,by rw [h1];simp⟩
def byS (c:List Pt) (s:Int):List Int:=ids (c.filter fun p=>p.at'==s)
theorem Zce (c:List Pt) (p:Pt) (s:Int):byS (c++ [p]) s=if s=p.at' then byS c s++ [p.id]else byS c s:=by
 unfold byS ids
 rw [List.filter_append,List.map_append]
 by_cases e:s=p.at'
 · subst e;simp
 · rw [if_neg e]
   have:(p.at'==s)=false:=by simp;exact fun h=>e h.symm
   simp [List.filter_cons,this]
theorem Zad {c:List Pt} {s x:Int} :x ∈ byS c s↔∃ p ∈ c,p.at'=s∧p.id=x:=by
 unfold byS
 rw [Z2p]
 constructor
 · rintro ⟨p,h1,h2⟩
   have:=List.mem_filter.1 h1
   exact⟨p,this.1,by simpa using this.2,h2⟩
 · rintro ⟨p,h1,h2,h3⟩
   exact⟨p,List.mem_filter.2 ⟨h1,by simpa using h2⟩,h3⟩
theorem Zlf {c:List Pt} (h:Rise c) (s:Int):(byS c s).Pairwise (· < ·):=by
 unfold byS ids
 rw [List.pairwise_map]
 exact h.filter _
theorem Zf8 (c:List Pt) (s:Int):(byS c s).length≤c.length:=by unfold byS ids;rw [List.length_map];exact List.length_filter_le _ _
structure BsM (w:World) (N m:Nat) (fm:Int→Option Value) (c:List Pt):Prop where
 mm:MpI Tryz.prog 3 w m fm
 nm:N≤m
 yes:∀ s,byS c s≠ []→∃ v,fm s=some v∧OwV w v (byS c s)∧∀ r,v.ownBlock=some r→N≤r
 no:∀ s,byS c s= []→fm s=none
 ap:∀ s s' v v' r,fm s=some v→fm s'=some v'→v.ownBlock=some r→v'.ownBlock=some r→s=s'
section
variable {w w' : World} {N m : Nat} {fm : Int → Option Value} {c : List Pt}
theorem BsM.later (h:BsM w N m fm c) (k:Below w.heap.size w w'):BsM w' N m fm c:=
 ⟨h.mm.later k,h.nm,fun s hs=>by obtain⟨v,h1,h2,h3⟩:=h.yes s hs;exact⟨v,h1,h2.later k,h3⟩,h.no,h.ap⟩
theorem BsM.keys (h:BsM w N m fm c) (hc:∀ p ∈ c,0≤p.at'∧p.at' < 2048):∀ k,(fm k).isSome→0≤k∧k < 2048:=fun k hk=>by
 by_cases e:byS c k= []
 · rw [h.no k e]at hk;cases hk
 · obtain⟨x,hx⟩:=List.exists_mem_of_ne_nil _ e
   obtain⟨p,h1,h2,_⟩:=Zad.1 hx
   rw [← h2];exact hc p h1
theorem BsM.look (h:BsM w N m fm c) (s:Int):∃ v,(fm s).getD (.slice none 0 0)=v∧OwV w v (byS c s)∧∀ r,v.ownBlock=some r→N≤r:=by
 by_cases e:byS c s= []
 · rw [h.no s e,e];exact⟨_,rfl,OwV.nil w,(fun r hr=>by cases hr)⟩
 · obtain⟨v,h1,h2,h3⟩:=h.yes s e
   rw [h1];exact⟨v,rfl,h2,h3⟩
theorem BsM.more {w1 w2:World} {p:Pt} {v v':Value} (h:BsM w N m fm c) (hv:(fm p.at').getD (.slice none 0 0)=v) (s1:Stp (fun x=>v.ownBlock=some x) w w1) (o1:OwV w1 v' (byS c p.at'++ [p.id])) (hb:∀ r,v'.ownBlock=some r→v.ownBlock=some r∨(w.heap.size≤r∧r < w1.heap.size)) (hN:N≤w.heap.size) (s2:Stp (fun x=>x=m) w1 w2) (m2:MpI Tryz.prog 3 w2 m (upd fm p.at' (some v'))):BsM w2 N m (upd fm p.at' (some v')) (c++ [p]):=by
 have hv':∀ r,v.ownBlock=some r→fm p.at'=some v∧N≤r∧r < w.heap.size:=fun r hr=>by
  cases hf:fm p.at' with
  | none=>rw [hf]at hv;subst hv;cases hr
  | some u=>
    rw [hf]at hv
    have hu:u=v:=hv
    subst hu
    by_cases e:byS c p.at'= []
    · rw [h.no _ e]at hf;cases hf
    · obtain⟨u',k1,k2,k3⟩:=h.yes _ e
      rw [hf]at k1;injection k1 with k1;subst k1
      exact⟨rfl,k3 r hr,k2.lt hr⟩
 have oth:∀ s u,s≠p.at'→fm s=some u→OwV w2 u (byS c s)∧∀ r,u.ownBlock=some r→N≤r∧r < w.heap.size∧v.ownBlock≠some r:=fun s u hs hu=>by
  by_cases e:byS c s= []
  · rw [h.no _ e]at hu;cases hu
  · obtain⟨u',k1,k2,k3⟩:=h.yes _ e
    rw [hu]at k1;injection k1 with k1;subst k1
    have hd:∀ r,u.ownBlock=some r→v.ownBlock≠some r:=fun r hr hr'=>hs (h.ap s p.at' u v r hu (hv' r hr').1 hr hr')
    exact⟨(k2.step s1 (fun r hr=>hd r hr)).step s2 (fun r hr e=>k2.map_ne h.mm (by rw [hr,e])),fun r hr=>⟨k3 r hr,k2.lt hr,hd r hr⟩⟩
 have o2:OwV w2 v' (byS c p.at'++ [p.id]):=o1.step s2 (fun r hr e=>by
  rcases hb r hr with q | q
  · have hf:=(hv' r q).1
    by_cases e':byS c p.at'= []
    · rw [h.no _ e']at hf;cases hf
    · obtain⟨u',k1,k2,k3⟩:=h.yes _ e'
      rw [hf]at k1;injection k1 with k1;subst k1
      exact k2.map_ne h.mm (by rw [q,e])
  · have:=h.mm.lt;omega)
 have key:∀ s u,upd fm p.at' (some v') s=some u→s=p.at'∧u=v'∨s≠p.at'∧fm s=some u:=fun s u hu=>by
  by_cases e:s=p.at'
  · left;refine⟨e,?_⟩;subst e;simp [upd]at hu;exact hu.symm
  · right;exact⟨e,by simpa [upd,e]using hu⟩
 have hN':∀ r,v'.ownBlock=some r→N≤r:=fun r hr=>by
  rcases hb r hr with q | q
  · exact(hv' r q).2.1
  · omega
 refine⟨m2,h.nm,fun s hs=>?_,fun s hs=>?_,fun s s' a b r h1 h2 h3 h4=>?_⟩
 · rw [Zce]at hs ⊢
   by_cases e:s=p.at'
   · subst e;rw [if_pos rfl];exact⟨v',by simp [upd],o2,hN'⟩
   · rw [if_neg e]at hs ⊢
     obtain⟨u,k1,k2,k3⟩:=h.yes s hs
     exact⟨u,by simp [upd,e,k1],(oth s u e k1).1,k3⟩
 · rw [Zce]at hs
   by_cases e:s=p.at'
   · rw [if_pos e]at hs;simp at hs
   · rw [if_neg e]at hs;simp [upd,e,h.no s hs]
 · rcases key s a h1 with⟨e1,e2⟩ | ⟨e1,e2⟩<;>rcases key s' b h2 with⟨e3,e4⟩ | ⟨e3,e4⟩
   · rw [e1,e3]
   · subst e2
     obtain⟨_,k⟩:=oth s' b e3 e4
     obtain⟨k1,k2,k3⟩:=k r h4
     rcases hb r h3 with q | q
     · exact absurd q k3
     · omega
   · subst e4
     obtain⟨_,k⟩:=oth s a e1 e2
     obtain⟨k1,k2,k3⟩:=k r h3
     rcases hb r h4 with q | q
     · exact absurd q k3
     · omega
   · exact h.ap s s' a b r e2 e4 h3 h4
end
set_option maxRecDepth 100000 in
set_option maxHeartbeats 4000000 in
theorem Zbv {w:World} {g mp mw:Nat} {f fw:Int→Option Value} {Z:GZ} {E F:Nat→Prop} (H:Gr w g mp mw f fw Z E F) (hnl:∀ p ∈ Z.l,p.needs.length≤100000) {c:List Pt} (hc:∀ p ∈ c,p ∈ Z.l) (hcl:c.length≤2000) {s:Sv} (hs:InsS w s (ids c)):
 Calls Tryz.prog 213 #[.pointer (some ⟨g,0,none⟩), .slice s.a s.n s.c] w fun e w'=>∃ m fm,e= .returned (.map (some m))∧BsM w' w.heap.size m fm c∧Below w.heap.size w w':=by
 have hl:=hs.i.len
 have hil:(ids c).length=c.length:=by unfold ids;rw [List.length_map]
 have hat:Hid (∀ p ∈ c,0≤p.at'∧p.at' < 2048):=fun p hp=>by have:=Z13 (H.ok.ft p (hc p hp));omega
 obtain⟨na,nn,nc⟩:=s
 have t1:True:=trivial
 go_enter Tryz.func213,Tryz.ntmps213
 go_wp2_with (first
  | (clear t1;refine Z65 187 (by rfl) (by rfl) ?_;intro m w1 a1 m1 b1))
 have st:BsM w1 w.heap.size m (fun _=>none) []:=⟨m1,a1,(fun s h=>absurd rfl h),fun _ _=>rfl,(fun s s' v v' r h=>by cases h)⟩
 clear m1
 go_loopw [13] (fun v wr=>∃ k:Nat,k≤c.length∧v= .int .i64 (k:Int)∧Below w.heap.size w wr∧∃ fm,BsM wr w.heap.size m fm (c.take k)) (fun v _=>c.length - (intOf v).toNat)
 case atStart=>exact⟨0,Nat.zero_le _,rfl,b1,_,st⟩
 case round=>
  clear st
  obtain⟨k,hk,rfl,hb,fm,I⟩:=hrel
  by_cases hlt:k < c.length
  · have h2:=hs.later hb
    obtain⟨b,o,e,hcs⟩:=h2.i.cell (by simp only at hl ⊢;omega)
    have ck:=hcs k (by simp only at hl ⊢;omega)
    simp only at e
    subst e
    have hp:c[k] ∈ Z.l:=hc _ (List.getElem_mem _)
    have hT:Hid (c.take (k+1)=c.take k++ [c[k]]):=by
     show _=_
     rw [List.take_add_one,List.getElem?_eq_getElem hlt];rfl
    have eid:(ids c).getD k 0=(c[k]).id:=by
     unfold ids
     rw [List.getD_eq_getElem?_getD,List.getElem?_map,List.getElem?_eq_getElem hlt];rfl
    rw [eid]at ck
    have hwf:=H.ok.wfp hp
    have H2:=H.later hb
    have hG:=Z12 H2 (c[k]).id hwf.i hnl
    have egt:gt Z.l (c[k]).id=c[k]:=by unfold gt;rw [Z29 H.ok.srt hp];rfl
    rw [egt]at hG
    clear hcs h2 eid egt
    have hps:wfi (c[k]).at':=hwf.s
    have hck:Hid (∀ p ∈ c.take k,0≤p.at'∧p.at' < 2048):=fun p hp=>hat.out p (List.mem_of_mem_take hp)
    have hle:(byS (c.take k) (c[k]).at').length+1≤1000000:=by
     have:=Zf8 (c.take k) (c[k]).at'
     rw [List.length_take]at this;omega
    have hle':Hid ((byS (c.take k) (c[k]).at').length+1≤1000000):=hle
    clear hle
    generalize c[k]=p at *
    generalize gE Z.l p.id=ge at *
    have a3:(k:Int) < (nn:Int):=by omega
    have t2:True:=trivial
    have t3:True:=trivial
    go_wp2_with (first
     | (go_at_call 220;refine hG.mono ?_;rintro e w4 ⟨d,n,rfl,m4,b4⟩;clear hG)
     | (clear t2;refine Z0t (by rfl) (by rfl) ?_;intro g5 w5 a5 a6 r5 b5)
     | (clear t3;refine Z0i (by rfl) _ _ (by rfl) g5 (by rfl) p d n (by rfl) _ r5 rfl ?_;intro w6 r6 s6))
    have B5:=Z01 (Z01 hb b4 (Nat.le_refl _)) b5 (Nat.le_refl _)
    have B6:Below w.heap.size w w6:=((Stp.of_below B5 (fun _=>False)).next s6 (fun x e=> .inr (by have:=(Z01 hb b4 (Nat.le_refl _)).size;omega))).below (Nat.le_refl _) (fun x e=>e.elim)
    have B46:Below wr.heap.size wr w6:=((Stp.of_below (Z01 b4 b5 (Nat.le_refl _)) (fun _=>False)).next s6 (fun x e=> .inr (by have:=b4.size;omega))).below (Nat.le_refl _) (fun x e=>e.elim)
    have I6:=I.later B46
    obtain⟨v,ev,ov,hob⟩:=I6.look p.at'
    obtain⟨va,vn,vc,rfl⟩:=ov.shape
    have hgm:g5≠m:=by have:=I.mm.lt;have:=b4.size;omega
    have hog:(Value.slice va vn vc).ownBlock≠some g5:=fun e=>by
     cases hf:fm p.at' with
     | none=>rw [hf]at ev;cases ev;cases e
     | some u=>
       rw [hf]at ev
       have hu:u= .slice va vn vc:=ev
       subst hu
       by_cases e':byS (c.take k) p.at'= []
       · rw [I.no _ e']at hf;cases hf
       · obtain⟨u',k1,k2,k3⟩:=I.yes _ e'
         rw [hf]at k1;injection k1 with k1;subst k1
         have:=k2.lt e;have:=b4.size;omega
    have hom:=ov.map_ne I6.mm
    have mm6:=I6.mm
    have hKy:=I6.keys hck.out
    have hKy':Hid (∀ k,(fm k).isSome→0≤k∧k < 2048):=hKy
    have hw6:w.heap.size≤w6.heap.size:=B6.size
    clear hKy b4 b5 s6 r5 m4 B5 a5 a6
    have hvn:vn=(byS (c.take k) p.at').length:=by
     rcases ov.row with⟨e1,e2⟩ | ⟨_,_,_,e1,_⟩
     · rw [e2];cases e1;rfl
     · cases e1;rfl
    subst hvn
    refine Z0n (S:=fun u=>Stp (fun x=>(Value.slice va (byS (c.take k) p.at').length vc).ownBlock=some x) w6 u) _ _ (by simp only [List.pop_toArray,List.dropLast_cons_cons,List.dropLast_singleton];rfl) (by simp only [List.back?_toArray,List.getLast?_cons_cons,List.getLast?_singleton];rfl) (by kernel_rfl) (by kernel_rfl) (Stp.refl _ _).drew (fun hHeld=>?_)
    refine tl 0 (.map (some m)) rfl ?_
    try simp only [z]
    refine tl 1 (.pointer (some ⟨g5,1,none⟩)) rfl ?_
    try simp only [z]
    refine tl 2 (.int .i64 p.at') rfl ?_ (fun u hu=>by have x1:=(Pt.cells (r6.step hu hog)).2.1;go_simp)
    try simp only [z]
    refine tl 3 (.map (some m)) rfl ?_
    try simp only [z]
    refine tl 4 (.pointer (some ⟨g5,1,none⟩)) rfl ?_
    try simp only [z]
    refine tl 5 (.int .i64 p.at') rfl ?_ (fun u hu=>by have x1:=(Pt.cells (r6.step hu hog)).2.1;go_simp)
    try simp only [z]
    refine tm 6 (.slice va (byS (c.take k) p.at').length vc) rfl
     (Z31 187 54 uWm _ zI (by rfl) _ _ (by rfl) m fm (by rfl) p.at' (by rfl) hps (fun u hu=>mm6.step hu hom) _ ev) ?_
    try simp only [z]
    refine tl 7 (.int .i64 p.id) rfl ?_
    try simp only [z]
    refine rd 8 rfl (fun K hK=>?_)
    refine Zdu rfl _ (by rfl) p.id (by rfl) ?_
    have ba:Below w6.heap.size w6 (w6.drew.alloc (.cells #[.int .i64 p.id] 3)):=((Below.refl _ w6).drew).alloc (Nat.le_refl _) _
    refine hK.out _ _ (Stp.of_below ba _) (fun hHeld=>?_)
    clear hK K
    try simp only [z]
    refine rd 9 rfl (fun K hK=>?_)
    refine Zbq elI 0 rfl _ _ (by rfl) (by rfl) (Z25 ov ba) (fun r _=>Nat.zero_le r) (some ⟨w6.drew.heap.size,0,none⟩) 1 [.int .i64 p.id] (by rfl) (by simp) (fun e=>by cases e) (fun ad e=>by injection e with e;subst e;exact cell_one_new _ _ _) (by simp [Value.oneCell']) hle'.out (Nat.zero_le _) ?_
    intro v' w9 hA
    obtain⟨A1,A2,A3,A4,_⟩:=hA
    have s9:Stp (fun x=>(Value.slice va (byS (c.take k) p.at').length vc).ownBlock=some x) w6 w9:=(Stp.of_below ba _).trans A4
    refine hK.out _ _ (s9) (fun hHeld=>?_)
    clear hK K
    try simp only [z]
    refine wpAnyH_done (by kernel_rfl) ?_ _
    have o9:OwV w9 v' (byS (c.take k) p.at'++ [p.id]):=by unfold OwV;simpa using A1
    have hnb:∀ r,v'.ownBlock=some r→(Value.slice va (byS (c.take k) p.at').length vc).ownBlock=some r∨(w6.heap.size≤r∧r < w9.heap.size):=fun r hr=>by
     rcases A3 with e | ⟨e,e2⟩
     · exact .inl (by rw [← e];exact hr)
     · rw [hr]at e;injection e with e
       exact .inr ⟨by rw [e];simp,by rw [e];exact e2⟩
    show wpList _ _ _ [_] _ _
    refine Z3j 187 54 uWm (by rfl) _ _ _ (by rfl) m fm (by rfl) p.at' (by rfl) v' (by rfl) (mm6.step s9 hom) hKy'.out hps ?_
    intro w10 m10 s10
    have J:=I6.more ev s9 o9 hnb hw6 s10 m10
    have B10:Below w.heap.size w w10:=((Stp.of_below B6 (fun _=>False)).next s9 (fun x e=> .inr (hob x e))).below (Nat.le_refl _) (fun x e=>e.elim)
     |>.trans (s10.below (Nat.le_trans B6.size s9.size) (fun x e=>by have:=I.nm;omega))
    clear hHeld
    simp only [Act.put]
    go_wp2_with fail
    go_roundw
    case rel=>exact⟨k+1,by omega,by go_num,B10,_,by rw [hT.out];exact J⟩
    case measure=>simp [intOf];omega
  · have hk':k=c.length:=by omega
    subst hk'
    rw [List.take_length]at I
    go_wp2_with fail
    go_returns
    exact⟨m,fm,rfl,I,hb⟩
end Go.Proofs.YtogdffonjhghcaaGreatDoor
namespace Go.Proofs.YtogdffonjhghcaaGreatDoor
open Go.ChangeShapes Go.WideShapes Go.ChangeAt Go.RowKit Go.Shelf
theorem Zch:∀ args w,(callFunc 269 args).run Tryz.prog w= .ok (.enter 269 args) w:=enters_of Tryz.func269 (by kernel_rfl) rfl
set_option maxRecDepth 100000 in
set_option maxHeartbeats 1000000 in
theorem Zdx {w:World} {va:Option Addr} {vn vc:Nat} {l:List Int} (ov:OwV w (.slice va vn vc) l) (hs:l.Pairwise (· < ·)) (hne:l≠ []) (hl:l.length≤100000) (gb:Nat) (hc:w.cell? ⟨gb,0,none⟩=some (.slice va vn vc)) (r:List Int):Z99 w 269 #[.pointer (some ⟨gb,0,none⟩)] r (fun x=>l.contains x):=by
 intro u x hx hu
 have hc1:=(Stp.of_below hu (fun _=>False)).cell hc id
 have hS:=Z9s (ov.later hu) x (by omega) hs hne
 show Calls Tryz.prog _ #[.int .i64 x, .pointer (some ⟨gb,0,none⟩)] u fun e u'=>e= .returned (.bool (l.contains x))∧Below u.heap.size u u'
 generalize l.countP (· < x)=kk at *
 generalize l.contains x=bb at *
 go_enter Tryz.func269,Tryz.ntmps269
 go_wp2_with (first | (go_at_call 270;refine hS.mono ?_;rintro e w3 ⟨rfl,b3⟩))
 go_returns
 exact⟨rfl,b3⟩
set_option maxRecDepth 100000 in
set_option maxHeartbeats 1000000 in
theorem Zgf {w:World} {va:Option Addr} {vn vc:Nat} {l:List Int} (ov:OwV w (.slice va vn vc) l) (hs:l.Pairwise (· < ·)) (hne:l≠ []) (hl:l.length≤100000) {s:Sv} {r:List Int} (hr:InsS w s r) (hrl:r.length≤1000000):
 Calls Tryz.prog 214 #[.slice va vn vc, .slice s.a s.n s.c] w fun e w'=>e= .returned (.bool (r.any fun x=>l.contains x))∧Below w.heap.size w w':=by
 have b0:Below w.heap.size w (w.alloc (.cells #[.slice va vn vc] 54)):=(Below.refl _ w).alloc (Nat.le_refl _) _
 have hC:=Z4n (hr.later b0) hrl 269 #[.pointer (some ⟨w.heap.size,0,none⟩)] _ (Zdx (ov.later b0) hs hne hl w.heap.size (by simp [go_sem]) r) Zch
 generalize (r.any fun x=>l.contains x)=bb at *
 go_enter Tryz.func214,Tryz.ntmps214
 go_wp2_with (first | (go_at_call 218;refine hC.mono ?_;rintro e w3 ⟨rfl,b3⟩))
 go_returns
 exact⟨rfl,Z01 b0 b3 (Nat.le_refl _)⟩
theorem Zok (mb:Option Nat) (W:World):Calls Tryz.prog 217 #[.map mb] W fun e w'=>e= .returned (.func (.func 273) #[] #[.pointer (some ⟨W.heap.size,0,none⟩)])∧w'=W.alloc (.cells #[.map mb] 187):=
 (callsIn_wide (n:=5)).1 (AnyZI.keys_in keysA Fence.wide 5 trivial rfl mb W)
theorem Zep {w:World} {b:Nat} {fm:Int→Option Value} (hm:MpI Tryz.prog 3 w b fm) {L:List Int} (hL:L.Pairwise (· < ·)) (hmem:∀ x,x ∈ L↔(fm x).isSome=true):
 Calls Tryz.prog 216 #[.func (.func 273) #[] #[.pointer (some ⟨w.heap.size,0,none⟩)]] (w.alloc (.cells #[.map (some b)] 187)) fun e w'=>∃ v,e= .returned v∧OwV w' v L∧New w.heap.size v∧Below w.heap.size w w':=by
 have hlt:=hm.lt
 obtain⟨D0,hown,hR⟩:=hm
 have hp:=Zj4 hown hR (Z9o hL) hmem
 have hsz:Maps.size D0≤4096:=by
  obtain⟨es,clock,hb,Ft,hs,hD⟩:=hown
  rw [hD];simp [Maps.size,length_sorted];exact hs
 have hseq:SeqGives Fence.wide 2 Tryz.prog 273 #[.pointer (some ⟨w.heap.size,0,none⟩)] encZ (fun ss=>ss.Perm (intKeys D0)) (Maps.size D0) (w.alloc (.cells #[.map (some b)] 187)):=
  AnyZI.keys_gives (ρ:=keysA_ren) { keysA with} Fence.wide _ trivial rfl (by omega) w.heap.size b 4096 D0 (R:=Z1t) _ (by simp) (by simp) (by
   obtain⟨es,clock,hb,Ft,hs,hD⟩:=hown
   exact⟨es,clock,(Below.heap_alloc _ _ b hlt).trans hb,Ft,hs,hD⟩)
 have cS:=AnyZI.sorted_in sortedA Fence.wide 5 trivial trivial trivial trivial rfl (by omega) (Zrc _) (enters_of Tryz.func168 (by kernel_rfl) rfl) 273 #[.pointer (some ⟨w.heap.size,0,none⟩)] trivial (enters_of Tryz.func273 (by kernel_rfl) rfl) _ _ (by unfold maxLen;omega) (by omega) _ hseq
 change CallsIn _ _ Tryz.prog 216 _ _ _ at cS
 have cSp:=callsIn_wide.1 cS
 refine cSp.mono ?_
 rintro e w' ⟨v,ss,rfl,hS,hrow,hnil,hb⟩
 have b0:Below w.heap.size w (w.alloc (.cells #[.map (some b)] 187)):=(Below.refl _ w).alloc (Nat.le_refl _) _
 have e1:ss.mergeSort (fun x y=>decide (x≤y))=L:=by
  have h1:=mergeSort_of_perm_i (hS.trans hp.symm)
  exact h1.trans (Zpp hL)
 have e2:ss.length=L.length:=(hS.trans hp.symm).length_eq
 refine⟨v,rfl,?_,fun r hr=>?_,Z01 b0 hb (Nat.le_refl _)⟩
 · unfold OwV
   rw [e1,e2]at hrow
   exact Zfp hrow
 · have:=(hrow.lt r hr).1;have:=b0.size;omega
def kpS (l c:List Pt) (s:Int):Bool:=(rdy l s).any fun x=>(byS c s).contains x
theorem Zom {l:List Pt} (hs:Rise l) (is:List Int) (s:Int):s ∈ bsS is l↔kpS l (nd is l) s=true:=by
 unfold bsS kpS
 rw [List.mem_filter,List.any_eq_true,List.any_eq_true]
 constructor
 · rintro ⟨h0,x,h1,h2⟩
   refine⟨x,h1,?_⟩
   rw [List.contains_iff_mem]at h2 ⊢
   obtain⟨q,q1,q2⟩:=Z2p.1 h2
   obtain⟨p,p1,p2,p3,_⟩:=Z78 hs h1
   have:q=p:=Z61 hs p1 (Z4t is l q q1) (by omega)
   subst this
   exact Zad.2 ⟨q,q1,p3,q2⟩
 · rintro ⟨x,h1,h2⟩
   rw [List.contains_iff_mem]at h2
   obtain⟨p,p1,p2,p3⟩:=Zad.1 h2
   obtain⟨q,q1,q2,q3,q4,_⟩:=Z78 hs h1
   refine⟨Z6l.2 fun e=>?_,x,h1,by rw [List.contains_iff_mem];exact Z2p.2 ⟨p,p1,p3⟩⟩
   have:x ∈ wts l s:=Z2b.2 ⟨q,q1,q2,q3,q4⟩
   rw [e]at this;cases this
theorem Zqy {l c:List Pt} {s:Int} (h:kpS l c s=true):byS c s≠ []:=by
 intro e
 unfold kpS at h
 rw [e]at h
 obtain⟨x,_,h2⟩:=List.any_eq_true.1 h
 simp at h2
theorem Zao (l:List Pt):∀ (W late:List Pt),(rdS l late W).length≤W.length
 | [],late=>by simp [rdS]
 | p::r,late=>by
   unfold rdS
   split
   · have:=Zao l r (late++ [p]);simp;omega
   · have:=Zao l r late;simp;omega
theorem Zfj {Z:GZ} {t:Int} (h:Z.ok t) (s:Int):((rdy Z.l s).length:Int)≤t:=by
 have h1:=h.fewW s
 have h2:=Zao Z.l (wtP Z.l s) []
 unfold rdy ids
 rw [List.length_map]
 omega
theorem Zfk {Z:GZ} {t:Int} (h:Z.ok t) (ht:t≤2000) (s:Int):∀ x ∈ rdy Z.l s,wfi x:=fun x hx=>by
 obtain⟨p,p1,p2,_⟩:=Z78 h.srt hx
 have:=h.rng p p1;have:=h.lt
 exact Z0z (by omega)
structure DuI (w wr:World) (N m r:Nat) (Z:GZ) (c:List Pt) (fm fn:Int→Option Value) (left:Int→Bool) (cnt:Nat):Prop where
 rg:RgI Tryz.prog 3 wr m r fn left cnt
 eq:∀ s,fn s=if left s||kpS Z.l c s then fm s else none
 vs:∀ s v,fm s=some v→byS c s≠ []∧OwV wr v (byS c s)∧∀ x,v.ownBlock=some x→N≤x∧x < r
 b:Below w.heap.size w wr
 rl:r < wr.heap.size
set_option maxRecDepth 100000 in
set_option maxHeartbeats 4000000 in
theorem Zob {w:World} {g mp mw:Nat} {f fw:Int→Option Value} {Z:GZ} {E F:Nat→Prop} (H:Gr w g mp mw f fw Z E F) (hnl:∀ p ∈ Z.l,p.needs.length≤100000) {is:List Int} {s:Sv} (hs:InsS w s (ids (nd is Z.l))):
 Calls Tryz.prog 147 #[.pointer (some ⟨g,0,none⟩), .slice s.a s.n s.c] w fun e w'=>∃ v,e= .returned v∧OwV w' v (bsS is Z.l)∧New w.heap.size v∧Below w.heap.size w w':=by
 have hcs:∀ p ∈ nd is Z.l,p ∈ Z.l:=Z4t is Z.l
 have hfew:=H.ok.few
 have hcl:(nd is Z.l).length≤2000:=by have:=Zd1 is Z.l;omega
 have hrc:=Z7x is Z.l H.ok.srt
 have hB:=Zbv H hnl hcs hcl hs
 have hend:Hid (∀ x,x ∈ bsS is Z.l↔kpS Z.l (nd is Z.l) x=true):=Zom H.ok.srt is
 have hris:Hid ((bsS is Z.l).Pairwise (· < ·)):=(Zbm Z.l).filter _
 generalize bsS is Z.l=L at *
 generalize nd is Z.l=c at *
 have t1:True:=trivial
 go_enter Tryz.func147,Tryz.ntmps147
 go_wp2_with (first
  | (go_at_call 213;refine hB.mono ?_;rintro e w1 ⟨m,fm,rfl,I1,b1⟩;clear hB)
  | (clear t1;refine Z51 (by rfl) _ (by rfl) (by rfl) (Z6h I1.mm uWm) ?_;rintro w2 ⟨cnt,hrg,hk2,hz2⟩))
 go_frame
 obtain⟨r,hr⟩:∃ r,r=w1.heap.size:=⟨_,rfl⟩
 rw [← hr]at hrg ⊢
 have b2:Below w1.heap.size w1 w2:=hk2.below (Nat.le_refl _) (fun _ e=>e.elim)
 have B2:=Z01 b1 b2 (Nat.le_refl _)
 have start:DuI w w2 w.heap.size m r Z c fm fm (fun k=>(fm k).isSome) cnt:=by
  refine⟨hrg,fun s=>?_,fun s v hv=>?_,B2,by omega⟩
  · cases hf:fm s with
    | none=>simp
    | some u=>simp
  · by_cases e:byS c s= []
    · rw [I1.no s e]at hv;cases hv
    · obtain⟨u,k1,k2,k3⟩:=I1.yes s e
      rw [hv]at k1;injection k1 with k1;subst k1
      exact⟨e,k2.later b2,fun x hx=>⟨k3 x hx,by have:=k2.lt hx;omega⟩⟩
 have hwr:w.heap.size≤r:=by have:=b1.size;omega
 have hmr:m < r:=by have:=I1.mm.lt;omega
 have hmN:=I1.nm
 have kpNone:Hid (∀ s,byS c s≠ []→fm s=none→False):=fun s h1 h2=>by
  obtain⟨u,k1,_⟩:=I1.yes s h1
  rw [h2]at k1;cases k1
 clear hrg hz2 hk2 hr b2 I1 b1 B2
 go_loopw [6,7] (fun _ _ wr=>∃ fn left cnt,DuI w wr w.heap.size m r Z c fm fn left cnt) (fun _ _ wr=>wr.rangeLeft m r)
 case atStart=>exact⟨_,_,_,start⟩
 case round=>
  clear start
  obtain⟨fn,left,cnt,I⟩:=hrel
  have t1:True:=trivial
  go_wp2_with (first
   | (clear t1;refine Z67 (by rfl) _ (by rfl) (by rfl) I.rg (fun hl=>?_) (fun k v w3 cnt3 hwf hlk hfk3 hrg3 hc3 hs3 hz3 hen=>?_)
      rotate_left
      have hzz:Hid (w3.heap.size=wr.heap.size):=hz3
      have B3:Below w.heap.size w w3:=((Stp.of_below I.b (fun _=>False)).next hs3 (fun x e=> .inr (by omega))).below (Nat.le_refl _) (fun x e=>e.elim)
      have hfm:fm k=some v:=by rw [I.eq k,hlk]at hfk3;simpa using hfk3
      obtain⟨hne,ov,hob⟩:=I.vs k v hfm
      have o3:=ov.step hs3 (fun x hx e=>by have:=(hob x hx).2;omega)
      obtain⟨va,vn,vc,rfl⟩:=o3.shape
      have hRd:=Zbf (H.later B3) k hwf hnl
      have hwfr:=Zfk H.ok (by omega) k
      have hlr:=Zfj H.ok k
      clear hz3)
   | (go_at_call 215;refine hRd.mono ?_;rintro e w4 ⟨v4,rfl,o4,n4,b4⟩;clear hRd
      obtain⟨s4,e4,_,i4,_⟩:=o4.ins hwfr n4
      subst e4
      have hCm:=Zgf (o3.later b4) (Zlf hrc k) hne (by have:=Zf8 c k;omega) i4 (by omega)
      have hkp:Hid (kpS Z.l c k=((rdy Z.l k).any fun x=>(byS c k).contains x)):=by show _=_;rfl
      generalize ((rdy Z.l k).any fun x=>(byS c k).contains x)=bb at *))
  · refine hCm.mono ?_
    rintro e w5 ⟨rfl,b5⟩
    clear hCm
    have B45:=Z01 b4 b5 (Nat.le_refl _)
    have B5:=Z01 B3 B45 (Nat.le_refl _)
    have rg5:=hrg3.step (Stp.of_below B45 (fun _=>False)) id id
    have zz:=hzz.out
    have hrl5:r < w5.heap.size:=by have:=B45.size;have:=I.rl;omega
    have vs5:∀ s v,fm s=some v→byS c s≠ []∧OwV w5 v (byS c s)∧∀ x,v.ownBlock=some x→w.heap.size≤x∧x < r:=fun s v hv=>by
     obtain⟨k1,k2,k3⟩:=I.vs s v hv
     exact⟨k1,(k2.step hs3 (fun x hx e=>by have:=(k3 x hx).2;omega)).later B45,k3⟩
    cases bb with
    | true=>
      have J:DuI w w5 w.heap.size m r Z c fm fn (fun x=>left x&& !decide (x=k)) cnt3:=by
       refine⟨rg5,fun s=>?_,vs5,B5,hrl5⟩
       rw [I.eq s]
       by_cases e:s=k
       · subst e;rw [hkp.out];simp
       · simp [e]
      clear b4 b5 hen hrg3 rg5 vs5
      go_wp2_with fail
      go_roundw
      case rel=>exact⟨_,_,_,J⟩
      case measure=>rw [J.rg.left_eq,I.rg.left_eq];exact hc3
    | false=>
      have t6:True:=trivial
      clear b4 b5 hen hrg3
      go_wp2_with (first
       | (clear t6;refine Z3r (t:=187) (R:=fun w'=>∃ cnt',RgI Tryz.prog 3 w' m r (upd fn k none) (fun x=>left x&& !decide (x=k)) cnt'∧cnt'≤cnt3∧Stp (fun x=>x=m) w5 w') (by rfl) _ _ (by rfl) (by rfl) (by rfl) (fun ty=>by
           obtain⟨w',cnt',d1,d2,d3,d4⟩:=rg5.drop u3 uWm hwf (by simp) ty
           exact⟨w',d1,cnt',d2,d3,Z0a d4⟩) ?_
          rintro w6 ⟨cnt6,rg6,hc6,s6⟩))
      have J:DuI w w6 w.heap.size m r Z c fm (upd fn k none) (fun x=>left x&& !decide (x=k)) cnt6:=by
       refine⟨rg6,fun s=>?_,fun s v hv=>?_,B5.trans (s6.below B5.size (fun x e=>by omega)),Nat.lt_of_lt_of_le hrl5 s6.size⟩
       · by_cases e:s=k
         · subst e;rw [hkp.out];simp [upd]
         · simp only [upd,e,if_false]
           rw [I.eq s];simp [e]
       · obtain⟨k1,k2,k3⟩:=vs5 s v hv
         exact⟨k1,k2.step s6 (fun x hx e=>k2.map_ne rg5.mp (by rw [hx,e])),k3⟩
      try simp only [Act.put]
      try go_wp2_with fail
      go_roundw
      case rel=>exact⟨_,_,_,J⟩
      case measure=>rw [J.rg.left_eq,I.rg.left_eq];omega
  · have hmm:=I.rg.mp
    have hmem:∀ x,x ∈ L↔(fn x).isSome=true:=fun x=>by
     rw [hend.out x,I.eq x,hl x]
     constructor
     · intro h
       rw [h]
       cases hf:fm x with
       | some u=>rfl
       | none=>exact(kpNone.out x (Zqy h) hf).elim
     · intro h
       cases hk:kpS Z.l c x with
       | true=>rfl
       | false=>rw [hk]at h;cases h
    have hSo:=Zep hmm hris.out hmem
    go_wp2_with (first
     | (go_at_call 217;refine(Zok _ _).mono ?_;rintro e w' ⟨rfl,rfl⟩)
     | (go_at_call 216;refine hSo.mono ?_;rintro e w4 ⟨v4,rfl,o4,n4,b4⟩))
    go_returns
    exact⟨_,rfl,o4,fun x hx=>by have:=n4 x hx;have:=I.b.size;omega,Z01 I.b b4 (Nat.le_refl _)⟩
end Go.Proofs.YtogdffonjhghcaaGreatDoor
