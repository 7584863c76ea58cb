/-
  Texts of my own, joined: no statement is proved here.
-/
import Derived.Test.YtogdffonjhghcaaGreatDoorJbl
set_option linter.unusedSimpArgs false
set_option linter.unusedVariables false
namespace Go.Proofs.YtogdffonjhghcaaGreatDoor
open Go.ChangeShapes Go.WideShapes Go.ChangeAt Go.RowKit
def TellsN (w:World) (fi:FuncId) (lb:Array Value) (l:List Int) (q:Int→Bool):Prop:=
  ∀ (u:World) (x:Int),x ∈ l→Below w.heap.size w u→Calls Tryz.prog fi (#[.int .i64 x]++lb) u fun e u'=>e= .returned (.bool (q x))∧Below u.heap.size u u'
theorem take_any {l:List Int} {k:Nat} {q:Int→Bool} (h:(l.take k).any q=true):l.any q=true:=by
  rw [← List.take_append_drop k l,List.any_append,h];rfl
set_option maxRecDepth 100000 in
set_option maxHeartbeats 2000000 in
theorem indexFunc_any {w:World} {s:Sv} {l:List Int} (h:InsS w s l) (hm:l.length≤1000000) (fi:FuncId) (lb:Array Value) (q:Int→Bool) (hq:TellsN w fi lb l q) (eg:∀ args w,(callFunc fi args).run Tryz.prog w= .ok (.enter fi args) w):
    Calls Tryz.prog 274 #[.slice s.a s.n s.c, .func (.func fi) #[] lb] w fun e w'=>∃ i,e= .returned (.int .i64 i)∧decide (0≤i)=l.any q∧Below w.heap.size w w':=by
  have hl:=h.i.len
  obtain⟨na,nn,nc⟩:=s
  go_enter Tryz.func274,Tryz.ntmps274
  go_wp2_with fail
  go_loopw [8] (fun v wr=>∃ k:Nat,k≤l.length∧v= .int .i64 (k:Int)∧Below w.heap.size w wr∧(l.take k).any q=false) (fun v _=>l.length - (intOf v).toNat)
  case atStart=>exact⟨0,Nat.zero_le _,rfl,Below.refl _ _,rfl⟩
  case round=>
    obtain⟨k,hk,rfl,hb,hn⟩:=hrel
    by_cases hlt:k < l.length
    · have h2:=h.later hb
      obtain⟨b,o,e,hcs⟩:=h2.i.cell (by simp only at hl ⊢;omega)
      have ck:=hcs k (by simp only at hl ⊢;omega)
      simp only at e
      subst e
      have hT:Hid ((l.take (k+1)).any q=q (l.getD k 0)):=by
        show _=_
        rw [List.take_add_one,List.getElem?_eq_getElem hlt,List.any_append,hn,List.getD_eq_getElem?_getD,List.getElem?_eq_getElem hlt];simp
      have hmem:l.getD k 0 ∈ l:=by rw [List.getD_eq_getElem?_getD,List.getElem?_eq_getElem hlt];exact List.getElem_mem _
      clear hcs h2 hn
      generalize l.getD k 0=y at *
      have a3:(k:Int) < (nn:Int):=by omega
      go_wp2_with fail
      refine(hq wr y hmem hb).mono ?_
      rintro e w7 ⟨rfl,b7⟩
      have B7:=bnext hb b7 (Nat.le_refl _)
      cases hc:q y with
      | true=>
        go_wp2_with fail
        go_returns
        refine⟨_,rfl,?_,B7⟩
        rw [take_any (k:=k+1) (by rw [hT.out,hc])];simp
      | false=>
        go_wp2_with fail
        go_roundw
        case rel=>exact⟨k+1,by omega,by go_num,B7,by rw [hT.out,hc]⟩
        case measure=>simp [intOf];omega
    · have hk':k=l.length:=by omega
      subst hk'
      rw [List.take_length]at hn
      have hn':Hid (l.any q=false):=hn
      clear hn
      go_wp2_with fail
      go_returns
      exact⟨_,rfl,by rw [hn'.out];simp,hb⟩
set_option maxRecDepth 100000 in
set_option maxHeartbeats 2000000 in
theorem containsFunc_any {w:World} {s:Sv} {l:List Int} (h:InsS w s l) (hm:l.length≤1000000) (fi:FuncId) (lb:Array Value) (q:Int→Bool) (hq:TellsN w fi lb l q) (eg:∀ args w,(callFunc fi args).run Tryz.prog w= .ok (.enter fi args) w):
    Calls Tryz.prog 218 #[.slice s.a s.n s.c, .func (.func fi) #[] lb] w fun e w'=>e= .returned (.bool (l.any q))∧Below w.heap.size w w':=by
  have hI:=indexFunc_any h hm fi lb q hq eg
  go_enter Tryz.func218,Tryz.ntmps218
  go_wp2_with (first | (go_at_call 274;refine hI.mono ?_;rintro e w7 ⟨i,rfl,ei,b7⟩;have ei':Hid (decide (0≤i)=l.any q):=ei;clear ei))
  go_returns
  exact⟨ret_bool (by rw [← ei'.out]),b7⟩
def bsS (is:List Int) (l:List Pt):List Int:=(secs l).filter fun s=>(rdy l s).any fun x=>(ids (nd is l)).contains x
def frS (L:List Int) (l:List Pt):Bool:=decide (L.length=1)&&(thP l (·.wr)).all fun p=>decide (p.at'=L.headD 0)
def GZ.cr (Z:GZ):List Int→GZ
  | []=>Z
  | s::r=>(Z.wr (rdy Z.l s)).cr r
def GZ.crO (Z:GZ):List Int→List Int
  | []=> []
  | s::r=>rdy Z.l s++(Z.wr (rdy Z.l s)).crO r
def GZ.car (Z:GZ) (L:List Int):GZ:=(Z.cr L).stl fun _=>true
def setO (l:List Pt) (O:List Int):List Pt:=l.map fun p=>if O.contains p.id then { p with wr:=true} else p
theorem setO_nil (l:List Pt):setO l []=l:=by
  unfold setO
  conv=>rhs;rw [← List.map_id l]
  exact List.map_congr_left fun p _=>by simp
theorem setO_app (l:List Pt) (A B:List Int):setO (setO l A) B=setO l (A++B):=by
  unfold setO
  rw [List.map_map]
  refine List.map_congr_left fun p _=>?_
  have:(A++B).contains p.id=(A.contains p.id||B.contains p.id):=by rw [Bool.eq_iff_iff];simp [List.contains_iff_mem]
  rw [this]
  cases hA:A.contains p.id<;>cases hB:B.contains p.id<;>simp only [Function.comp_apply,hA,hB,Bool.or_false,Bool.or_true,Bool.false_eq_true,if_true,if_false]
theorem setO_one (l:List Pt) (i:Int):setW l i=setO l [i]:=by
  unfold setO setW
  exact List.map_congr_left fun p _=>by by_cases e:p.id=i<;>simp [e]
theorem setO_ids (l:List Pt) (O:List Int):ids (setO l O)=ids l:=by
  unfold ids setO
  rw [List.map_map]
  exact List.map_congr_left fun p _=>by simp only [Function.comp];split<;>rfl
theorem setO_has (l:List Pt) (O:List Int) (i:Int):has (setO l O) i=has l i:=by rw [has_ids,setO_ids,← has_ids]
theorem setO_held (l:List Pt) (O:List Int) (p:Pt):held (setO l O) p=held l p:=by
  unfold held;congr 1;funext i;exact setO_has l O i
theorem setO_mem {l:List Pt} {O:List Int} {q:Pt} :q ∈ setO l O↔∃ p ∈ l,q=if O.contains p.id then { p with wr:=true} else p:=by
  unfold setO
  rw [List.mem_map]
  constructor
  · rintro ⟨p,h1,h2⟩;exact⟨p,h1,h2.symm⟩
  · rintro ⟨p,h1,h2⟩;exact⟨p,h1,h2.symm⟩
theorem setO_un {l:List Pt} {O:List Int} {q:Pt} (h:q ∈ setO l O) (hw:q.wr=false):q ∈ l∧O.contains q.id=false:=by
  obtain⟨p,h1,h2⟩:=setO_mem.1 h
  by_cases e:O.contains p.id=true
  · rw [if_pos e]at h2;rw [h2]at hw;cases hw
  · rw [if_neg e]at h2;subst h2;exact⟨h1,by simpa using e⟩
theorem setO_in {l:List Pt} {O:List Int} {q:Pt} (h:q ∈ l) (hO:O.contains q.id=false):q ∈ setO l O:=setO_mem.2 ⟨q,h,by rw [if_neg (by rw [hO];simp)]⟩
theorem setO_rise {l:List Pt} (h:Rise l) (O:List Int):Rise (setO l O):=by
  unfold Rise setO
  rw [List.pairwise_map]
  refine h.imp fun {a b} hab=>?_
  split<;>split<;>exact hab
theorem wr_setO:∀ (L:List Int) (Z:GZ),Z.wrE L=0→(Z.wr L).l=setO Z.l L∧(Z.wr L).last=Z.last
  | [],Z,_=>⟨(setO_nil _).symm,rfl⟩
  | i::r,Z,h=>by
    have h1:wE Z.l i=0:=by
      refine Decidable.byContradiction fun e=>?_
      unfold GZ.wrE at h;rw [if_neg e]at h;exact e h
    unfold GZ.wrE at h;rw [if_pos h1]at h
    have e1:(Z.wr1 i).l=setW Z.l i∧(Z.wr1 i).last=Z.last:=by unfold GZ.wr1;rw [if_pos h1];exact⟨rfl,rfl⟩
    have ih:=wr_setO r (Z.wr1 i) h
    unfold GZ.wr;rw [if_pos h1,ih.1,ih.2,e1.1,e1.2,setO_one,setO_app]
    exact⟨rfl,rfl⟩
theorem wr_rdy {Z:GZ} (h:Rise Z.l) (s:Int):(Z.wr (rdy Z.l s)).l=setO Z.l (rdy Z.l s)∧(Z.wr (rdy Z.l s)).last=Z.last:=wr_setO _ _ (wr_ready Z h s)
theorem cr_setO:∀ (L:List Int) (Z:GZ),Rise Z.l→(Z.cr L).l=setO Z.l (Z.crO L)∧(Z.cr L).last=Z.last
  | [],Z,_=>⟨(setO_nil _).symm,rfl⟩
  | s::r,Z,h=>by
    have e:=wr_rdy h s
    have ih:=cr_setO r (Z.wr (rdy Z.l s)) (by rw [e.1];exact setO_rise h _)
    unfold GZ.cr GZ.crO
    rw [ih.1,ih.2,e.2,e.1,setO_app]
    exact⟨rfl,rfl⟩
def lft (O:List Int) (p:Pt):Bool:= !p.wr&& !O.contains p.id
theorem car_is (Z:GZ) (h:Rise Z.l) (L:List Int):(Z.car L).l=Z.l.filter (lft (Z.crO L))∧(Z.car L).last=Z.last:=by
  refine⟨?_,(cr_setO L Z h).2⟩
  unfold GZ.car GZ.stl
  simp only
  rw [(cr_setO L Z h).1]
  generalize Z.crO L=O
  generalize Z.l=l
  induction l with
  | nil=>rfl
  | cons a t ih=>
    have e:setO (a::t) O=(if O.contains a.id then { a with wr:=true} else a)::setO t O:=by unfold setO;rw [List.map_cons]
    rw [e,List.filter_cons,List.filter_cons,ih]
    unfold lft
    cases h1:O.contains a.id<;>cases h2:a.wr<;>simp [h1,h2]
theorem rdS_facts (l:List Pt):∀ (W late:List Pt),Rise W→∀ p ∈ rdS l late W,held l p=false∧(∀ a ∈ late,meet a p=false)∧∀ a ∈ W,a.id < p.id→meet a p=true→a ∈ rdS l late W
  | [],late,_,p,h=>by cases h
  | b::r,late,hR,p,h=>by
    unfold Rise at hR
    rw [List.pairwise_cons]at hR
    unfold rdS at h ⊢
    split at h
    · rename_i hc
      rw [if_pos hc]
      obtain⟨h1,h2,h3⟩:=rdS_facts l r (late++ [b]) hR.2 p h
      refine⟨h1,fun a ha=>h2 a (by simp [ha]),fun a ha hlt hm=>?_⟩
      rcases List.mem_cons.1 ha with rfl | ha
      · have:=h2 a (by simp);rw [hm]at this;cases this
      · exact h3 a ha hlt hm
    · rename_i hc
      rw [if_neg hc]
      have hc1:held l b=false∧late.any (fun q=>meet q b)=false:=by simpa using hc
      rcases List.mem_cons.1 h with rfl | h
      · refine⟨hc1.1,fun a ha=>?_,fun a ha hlt hm=>?_⟩
        · have:=List.any_eq_false.1 hc1.2 a ha
          simpa using this
        · rcases List.mem_cons.1 ha with rfl | ha
          · omega
          · have:=hR.1 a ha;omega
      · obtain⟨h1,h2,h3⟩:=rdS_facts l r late hR.2 p h
        refine⟨h1,h2,fun a ha hlt hm=>?_⟩
        rcases List.mem_cons.1 ha with rfl | ha
        · exact List.mem_cons_self
        · exact List.mem_cons_of_mem _ (h3 a ha hlt hm)
theorem ids_mem {l:List Pt} {x:Int} :x ∈ ids l↔∃ p ∈ l,p.id=x:=by unfold ids;exact List.mem_map
theorem rdy_facts {l:List Pt} (hs:Rise l) {s x:Int} (h:x ∈ rdy l s):∃ p ∈ l,p.id=x∧p.at'=s∧p.wr=false∧held l p=false∧∀ a ∈ l,a.id < p.id→a.wr=false→meet a p=true→a.id ∈ rdy l s:=by
  obtain⟨p,hp,hx⟩:=ids_mem.1 h
  have hW:Rise (wtP l s):=hs.filter _
  obtain⟨h1,_,h3⟩:=rdS_facts l (wtP l s) [] hW p hp
  obtain⟨q1,q2,q3⟩:=wtP_mem.1 (rdS_sub l _ _ p hp)
  refine⟨p,q1,hx,q2,q3,h1,fun a ha hlt hw hm=>?_⟩
  exact ids_mem.2 ⟨a,h3 a (wtP_mem.2 ⟨ha,(meet_at hm).trans q2,hw⟩) hlt hm,rfl⟩
theorem rdS_in (l:List Pt) (p:Pt) (hh:held l p=false):∀ (W late:List Pt),p ∈ W→Rise W→(∀ a ∈ late,meet a p=false)→(∀ a ∈ W,a.id < p.id→meet a p=false)→p ∈ rdS l late W
  | [],_,h,_,_,_=>by cases h
  | b::r,late,h,hR,h1,h2=>by
    unfold Rise at hR
    rw [List.pairwise_cons]at hR
    unfold rdS
    rcases List.mem_cons.1 h with rfl | h
    · have:late.any (fun q=>meet q p)=false:=List.any_eq_false.2 (fun a ha=>by rw [h1 a ha];simp)
      rw [if_neg (by rw [hh,this];simp)]
      exact List.mem_cons_self
    · have hlt:=hR.1 p h
      split
      · refine rdS_in l p hh r (late++ [b]) h hR.2 (fun a ha=>?_) (fun a ha=>h2 a (by simp [ha]))
        rcases List.mem_append.1 ha with ha | ha
        · exact h1 a ha
        · rw [List.mem_singleton.1 ha];exact h2 b (by simp) hlt
      · exact List.mem_cons_of_mem _ (rdS_in l p hh r late h hR.2 h1 (fun a ha=>h2 a (by simp [ha])))
theorem rdy_in {l:List Pt} (hs:Rise l) {p:Pt} (hp:p ∈ l) (hw:p.wr=false) (hh:held l p=false) (h:∀ a ∈ l,a.id < p.id→a.wr=false→meet a p=false):p.id ∈ rdy l p.at':=by
  refine ids_mem.2 ⟨p,rdS_in l p hh _ [] (wtP_mem.2 ⟨hp,rfl,hw⟩) (hs.filter _) (fun a ha=>by cases ha) (fun a ha hlt=>?_),rfl⟩
  obtain⟨q1,q2,q3⟩:=wtP_mem.1 ha
  exact h a q1 hlt q3
theorem crO_in:∀ (L:List Int) (Z:GZ),Rise Z.l→∀ p ∈ Z.l,p.wr=false→held Z.l p=false→(∀ a ∈ Z.l,a.id < p.id→a.wr=false→meet a p=false)→p.at' ∈ L→p.id ∈ Z.crO L
  | [],Z,_,p,_,_,_,_,h=>by cases h
  | s::r,Z,hs,p,hp,hw,hh,ha,h=>by
    unfold GZ.crO
    by_cases hx:p.id ∈ rdy Z.l s
    · exact List.mem_append.2 (.inl hx)
    · rcases List.mem_cons.1 h with h | h
      · rw [← h]at hx;exact absurd (rdy_in hs hp hw hh ha) hx
      · have e:=(wr_rdy hs s).1
        refine List.mem_append.2 (.inr (crO_in r (Z.wr (rdy Z.l s)) (by rw [e];exact setO_rise hs _) p (by rw [e];exact setO_in hp (by simpa [List.contains_iff_mem]using hx)) hw (by rw [e,setO_held];exact hh) (fun a hq hlt hw'=>?_) h))
        rw [e]at hq
        exact ha a (setO_un hq hw').1 hlt hw'
theorem wnt_mono {is:List Int} {c c':List Pt} (h:∀ q ∈ c,q ∈ c') {a:Pt} (hw:wnt is c a=true):wnt is c' a=true:=by
  unfold wnt at hw ⊢
  rw [Bool.or_eq_true]at hw ⊢
  rcases hw with hw | hw
  · exact .inl hw
  · obtain⟨q,h1,h2⟩:=List.any_eq_true.1 hw
    exact .inr (List.any_eq_true.2 ⟨q,h q h1,h2⟩)
theorem nd_filt (is:List Int) (P:Pt→Bool):∀ l:List Pt,(nd is (l.filter P)).Sublist ((nd is l).filter P)
  | []=>List.Sublist.refl _
  | a::t=>by
    have ih:=nd_filt is P t
    rw [List.filter_cons]
    have mono:∀ q ∈ nd is (t.filter P),q ∈ nd is t:=fun q hq=>(List.mem_filter.1 (ih.subset hq)).1
    by_cases hP:P a=true
    · rw [if_pos hP,nd,nd]
      by_cases h1:wnt is (nd is (t.filter P)) a=true
      · rw [if_pos h1,if_pos (wnt_mono mono h1),List.filter_cons,if_pos hP]
        exact ih.cons_cons a
      · rw [if_neg h1]
        split
        · rw [List.filter_cons,if_pos hP];exact ih.cons a
        · exact ih
    · rw [if_neg hP,nd]
      split
      · rw [List.filter_cons,if_neg hP];exact ih
      · exact ih
theorem nd_close (is:List Int):∀ l:List Pt,Rise l→∀ p ∈ nd is l,∀ a ∈ l,a.id < p.id→(p.needs.contains a.id||(!p.wr&& !a.wr&&meet a p))=true→a ∈ nd is l
  | [],_,p,h,_,_,_,_=>by cases h
  | b::t,hR,p,h,a,ha,hlt,hc=>by
    unfold Rise at hR
    rw [List.pairwise_cons]at hR
    have hpt:p ∈ nd is t:=by
      rw [nd]at h
      split at h
      · rcases List.mem_cons.1 h with rfl | h
        · rcases List.mem_cons.1 ha with rfl | ha
          · omega
          · have:=hR.1 a ha;omega
        · exact h
      · exact h
    rw [nd]
    rcases List.mem_cons.1 ha with rfl | ha
    · have :wnt is (nd is t) a=true:=by
        unfold wnt
        rw [Bool.or_eq_true]
        exact .inr (List.any_eq_true.2 ⟨p,hpt,hc⟩)
      rw [if_pos this]
      exact List.mem_cons_self
    · have:=nd_close is t hR.2 p hpt a ha hlt hc
      split
      · exact List.mem_cons_of_mem _ this
      · exact this
theorem nd_rise (is:List Int):∀ l:List Pt,Rise l→Rise (nd is l)
  | [],_=>List.Pairwise.nil
  | a::t,h=>by
    unfold Rise at h
    rw [List.pairwise_cons]at h
    rw [nd]
    split
    · exact List.Pairwise.cons (fun q hq=>h.1 q (nd_sub is t q hq)) (nd_rise is t h.2)
    · exact nd_rise is t h.2
theorem has_mem {l:List Pt} {i:Int} (h:has l i=true):∃ q ∈ l,q.id=i:=by
  unfold has at h
  obtain⟨q,h1,h2⟩:=List.any_eq_true.1 h
  exact⟨q,h1,by simpa using h2⟩
theorem first_goes {Z:GZ} {t:Int} (hok:Z.ok t) {is:List Int} {p:Pt} {r:List Pt} (e:nd is Z.l=p::r):lft (Z.crO (bsS is Z.l)) p=false:=by
  have hs:Rise Z.l:=hok.srt
  have hp:p ∈ nd is Z.l:=by rw [e];simp
  have hpl:=nd_sub is Z.l p hp
  have hmin:∀ a ∈ nd is Z.l,¬a.id < p.id:=by
    intro a ha hlt
    have hr:=nd_rise is Z.l hs
    rw [e]at ha hr
    unfold Rise at hr
    rw [List.pairwise_cons]at hr
    rcases List.mem_cons.1 ha with rfl | ha
    · omega
    · have:=hr.1 a ha;omega
  unfold lft
  cases hw:p.wr with
  | true=>rfl
  | false=>
    have hh:held Z.l p=false:=by
      unfold held
      rw [List.any_eq_false]
      intro x hx h
      obtain⟨q,h1,h2⟩:=has_mem h
      have h3:=hok.nds p hpl x hx
      exact hmin q (nd_close is Z.l hs p hp q h1 (by omega) (by rw [h2];simp [hx])) (by omega)
    have ha:∀ a ∈ Z.l,a.id < p.id→a.wr=false→meet a p=false:=by
      intro a h1 h2 h3
      cases hm:meet a p with
      | false=>rfl
      | true=>exact absurd h2 (hmin a (nd_close is Z.l hs p hp a h1 h2 (by simp [hw,h3,hm])))
    have hin:p.at' ∈ bsS is Z.l:=by
      refine List.mem_filter.2 ⟨secs_mem.2 fun e'=>?_,List.any_eq_true.2 ⟨p.id,rdy_in hs hpl hw hh ha,?_⟩⟩
      · have hm:p.id ∈ wts Z.l p.at':=wts_mem.2 ⟨p,hpl,rfl,rfl,hw⟩
        rw [e']at hm;cases hm
      · rw [List.contains_iff_mem];exact ids_mem.2 ⟨p,hp,rfl⟩
    have:=crO_in (bsS is Z.l) Z hs p hpl hw hh ha hin
    have h2:(Z.crO (bsS is Z.l)).contains p.id=true:=by rw [List.contains_iff_mem];exact this
    rw [h2];rfl
theorem car_less {Z:GZ} {t:Int} (hok:Z.ok t) {is:List Int} (h:nd is Z.l≠ []):(nd is (Z.car (bsS is Z.l)).l).length < (nd is Z.l).length:=by
  obtain⟨p,r,e⟩:=List.exists_cons_of_ne_nil h
  have h1:=first_goes hok e
  rw [(car_is Z hok.srt _).1]
  have h2:=(nd_filt is (lft (Z.crO (bsS is Z.l))) Z.l).length_le
  refine Nat.lt_of_le_of_lt h2 ?_
  rw [List.length_filter_lt_length_iff_exists]
  exact⟨p,by rw [e];simp,by rw [h1];simp⟩
def byS (c:List Pt) (s:Int):List Int:=ids (c.filter fun p=>p.at'==s)
theorem byS_snoc (c:List Pt) (p:Pt) (s:Int):byS (c++ [p]) s=if s=p.at' then byS c s++ [p.id]else byS c s:=by
  unfold byS ids
  rw [List.filter_append,List.map_append]
  by_cases e:s=p.at'
  · subst e;simp
  · rw [if_neg e]
    have:(p.at'==s)=false:=by simp;exact fun h=>e h.symm
    simp [List.filter_cons,this]
theorem byS_mem {c:List Pt} {s x:Int} :x ∈ byS c s↔∃ p ∈ c,p.at'=s∧p.id=x:=by
  unfold byS
  rw [ids_mem]
  constructor
  · rintro ⟨p,h1,h2⟩
    have:=List.mem_filter.1 h1
    exact⟨p,this.1,by simpa using this.2,h2⟩
  · rintro ⟨p,h1,h2,h3⟩
    exact⟨p,List.mem_filter.2 ⟨h1,by simpa using h2⟩,h3⟩
theorem byS_rise {c:List Pt} (h:Rise c) (s:Int):(byS c s).Pairwise (· < ·):=by
  unfold byS ids
  rw [List.pairwise_map]
  exact h.filter _
theorem byS_len (c:List Pt) (s:Int):(byS c s).length≤c.length:=by unfold byS ids;rw [List.length_map];exact List.length_filter_le _ _
structure BsM (w:World) (N m:Nat) (fm:Int→Option Value) (c:List Pt):Prop where
  mm:MpI Tryz.prog 3 w m fm
  nm:N≤m
  yes:∀ s,byS c s≠ []→∃ v,fm s=some v∧OwV w v (byS c s)∧∀ r,v.ownBlock=some r→N≤r
  no:∀ s,byS c s= []→fm s=none
  ap:∀ s s' v v' r,fm s=some v→fm s'=some v'→v.ownBlock=some r→v'.ownBlock=some r→s=s'
section
variable {w w' : World} {N m : Nat} {fm : Int → Option Value} {c : List Pt}
theorem BsM.later (h:BsM w N m fm c) (k:Below w.heap.size w w'):BsM w' N m fm c:=
  ⟨h.mm.later k,h.nm,fun s hs=>by obtain⟨v,h1,h2,h3⟩:=h.yes s hs;exact⟨v,h1,h2.later k,h3⟩,h.no,h.ap⟩
theorem BsM.keys (h:BsM w N m fm c) (hc:∀ p ∈ c,0≤p.at'∧p.at' < 2048):∀ k,(fm k).isSome→0≤k∧k < 2048:=fun k hk=>by
  by_cases e:byS c k= []
  · rw [h.no k e]at hk;cases hk
  · obtain⟨x,hx⟩:=List.exists_mem_of_ne_nil _ e
    obtain⟨p,h1,h2,_⟩:=byS_mem.1 hx
    rw [← h2];exact hc p h1
theorem BsM.look (h:BsM w N m fm c) (s:Int):∃ v,(fm s).getD (.slice none 0 0)=v∧OwV w v (byS c s)∧∀ r,v.ownBlock=some r→N≤r:=by
  by_cases e:byS c s= []
  · rw [h.no s e,e];exact⟨_,rfl,OwV.nil w,(fun r hr=>by cases hr)⟩
  · obtain⟨v,h1,h2,h3⟩:=h.yes s e
    rw [h1];exact⟨v,rfl,h2,h3⟩
theorem BsM.more {w1 w2:World} {p:Pt} {v v':Value} (h:BsM w N m fm c) (hv:(fm p.at').getD (.slice none 0 0)=v) (s1:Stp (fun x=>v.ownBlock=some x) w w1) (o1:OwV w1 v' (byS c p.at'++ [p.id])) (hb:∀ r,v'.ownBlock=some r→v.ownBlock=some r∨(w.heap.size≤r∧r < w1.heap.size)) (hN:N≤w.heap.size) (s2:Stp (fun x=>x=m) w1 w2) (m2:MpI Tryz.prog 3 w2 m (upd fm p.at' (some v'))):BsM w2 N m (upd fm p.at' (some v')) (c++ [p]):=by
  have hv':∀ r,v.ownBlock=some r→fm p.at'=some v∧N≤r∧r < w.heap.size:=fun r hr=>by
    cases hf:fm p.at' with
    | none=>rw [hf]at hv;subst hv;cases hr
    | some u=>
      rw [hf]at hv
      have hu:u=v:=hv
      subst hu
      by_cases e:byS c p.at'= []
      · rw [h.no _ e]at hf;cases hf
      · obtain⟨u',k1,k2,k3⟩:=h.yes _ e
        rw [hf]at k1;injection k1 with k1;subst k1
        exact⟨rfl,k3 r hr,k2.lt hr⟩
  have oth:∀ s u,s≠p.at'→fm s=some u→OwV w2 u (byS c s)∧∀ r,u.ownBlock=some r→N≤r∧r < w.heap.size∧v.ownBlock≠some r:=fun s u hs hu=>by
    by_cases e:byS c s= []
    · rw [h.no _ e]at hu;cases hu
    · obtain⟨u',k1,k2,k3⟩:=h.yes _ e
      rw [hu]at k1;injection k1 with k1;subst k1
      have hd:∀ r,u.ownBlock=some r→v.ownBlock≠some r:=fun r hr hr'=>hs (h.ap s p.at' u v r hu (hv' r hr').1 hr hr')
      exact⟨(k2.step s1 (fun r hr=>hd r hr)).step s2 (fun r hr e=>k2.map_ne h.mm (by rw [hr,e])),fun r hr=>⟨k3 r hr,k2.lt hr,hd r hr⟩⟩
  have o2:OwV w2 v' (byS c p.at'++ [p.id]):=o1.step s2 (fun r hr e=>by
    rcases hb r hr with q | q
    · have hf:=(hv' r q).1
      by_cases e':byS c p.at'= []
      · rw [h.no _ e']at hf;cases hf
      · obtain⟨u',k1,k2,k3⟩:=h.yes _ e'
        rw [hf]at k1;injection k1 with k1;subst k1
        exact k2.map_ne h.mm (by rw [q,e])
    · have:=h.mm.lt;omega)
  have key:∀ s u,upd fm p.at' (some v') s=some u→s=p.at'∧u=v'∨s≠p.at'∧fm s=some u:=fun s u hu=>by
    by_cases e:s=p.at'
    · left;refine⟨e,?_⟩;subst e;simp [upd]at hu;exact hu.symm
    · right;exact⟨e,by simpa [upd,e]using hu⟩
  have hN':∀ r,v'.ownBlock=some r→N≤r:=fun r hr=>by
    rcases hb r hr with q | q
    · exact(hv' r q).2.1
    · omega
  refine⟨m2,h.nm,fun s hs=>?_,fun s hs=>?_,fun s s' a b r h1 h2 h3 h4=>?_⟩
  · rw [byS_snoc]at hs ⊢
    by_cases e:s=p.at'
    · subst e;rw [if_pos rfl];exact⟨v',by simp [upd],o2,hN'⟩
    · rw [if_neg e]at hs ⊢
      obtain⟨u,k1,k2,k3⟩:=h.yes s hs
      exact⟨u,by simp [upd,e,k1],(oth s u e k1).1,k3⟩
  · rw [byS_snoc]at hs
    by_cases e:s=p.at'
    · rw [if_pos e]at hs;simp at hs
    · rw [if_neg e]at hs;simp [upd,e,h.no s hs]
  · rcases key s a h1 with⟨e1,e2⟩ | ⟨e1,e2⟩<;>rcases key s' b h2 with⟨e3,e4⟩ | ⟨e3,e4⟩
    · rw [e1,e3]
    · subst e2
      obtain⟨_,k⟩:=oth s' b e3 e4
      obtain⟨k1,k2,k3⟩:=k r h4
      rcases hb r h3 with q | q
      · exact absurd q k3
      · omega
    · subst e4
      obtain⟨_,k⟩:=oth s a e1 e2
      obtain⟨k1,k2,k3⟩:=k r h3
      rcases hb r h4 with q | q
      · exact absurd q k3
      · omega
    · exact h.ap s s' a b r e2 e4 h3 h4
end
set_option maxRecDepth 100000 in
set_option maxHeartbeats 4000000 in
theorem bySectors_any {w:World} {g mp mw:Nat} {f fw:Int→Option Value} {Z:GZ} {E F:Nat→Prop} (H:Gr w g mp mw f fw Z E F) (hnl:∀ p ∈ Z.l,p.needs.length≤100000) {c:List Pt} (hc:∀ p ∈ c,p ∈ Z.l) (hcl:c.length≤2000) {s:Sv} (hs:InsS w s (ids c)):
    Calls Tryz.prog 213 #[.pointer (some ⟨g,0,none⟩), .slice s.a s.n s.c] w fun e w'=>∃ m fm,e= .returned (.map (some m))∧BsM w' w.heap.size m fm c∧Below w.heap.size w w':=by
  have hl:=hs.i.len
  have hil:(ids c).length=c.length:=by unfold ids;rw [List.length_map]
  have hat:Hid (∀ p ∈ c,0≤p.at'∧p.at' < 2048):=fun p hp=>by have:=fit_to (H.ok.ft p (hc p hp));omega
  obtain⟨na,nn,nc⟩:=s
  have t1:True:=trivial
  go_enter Tryz.func213,Tryz.ntmps213
  go_wp2_with (first
    | (clear t1;refine at_makeM 187 (by rfl) (by rfl) ?_;intro m w1 a1 m1 b1))
  have st:BsM w1 w.heap.size m (fun _=>none) []:=⟨m1,a1,(fun s h=>absurd rfl h),fun _ _=>rfl,(fun s s' v v' r h=>by cases h)⟩
  clear m1
  go_loopw [13] (fun v wr=>∃ k:Nat,k≤c.length∧v= .int .i64 (k:Int)∧Below w.heap.size w wr∧∃ fm,BsM wr w.heap.size m fm (c.take k)) (fun v _=>c.length - (intOf v).toNat)
  case atStart=>exact⟨0,Nat.zero_le _,rfl,b1,_,st⟩
  case round=>
    clear st
    obtain⟨k,hk,rfl,hb,fm,I⟩:=hrel
    by_cases hlt:k < c.length
    · have h2:=hs.later hb
      obtain⟨b,o,e,hcs⟩:=h2.i.cell (by simp only at hl ⊢;omega)
      have ck:=hcs k (by simp only at hl ⊢;omega)
      simp only at e
      subst e
      have hp:c[k] ∈ Z.l:=hc _ (List.getElem_mem _)
      have hT:Hid (c.take (k+1)=c.take k++ [c[k]]):=by
        show _=_
        rw [List.take_add_one,List.getElem?_eq_getElem hlt];rfl
      have eid:(ids c).getD k 0=(c[k]).id:=by
        unfold ids
        rw [List.getD_eq_getElem?_getD,List.getElem?_map,List.getElem?_eq_getElem hlt];rfl
      rw [eid]at ck
      have hwf:=H.ok.wfp hp
      have H2:=H.later hb
      have hG:=get_any H2 (c[k]).id hwf.i hnl
      have egt:gt Z.l (c[k]).id=c[k]:=by unfold gt;rw [fnd_of H.ok.srt hp];rfl
      rw [egt]at hG
      clear hcs h2 eid egt
      have hps:wfi (c[k]).at':=hwf.s
      have hck:Hid (∀ p ∈ c.take k,0≤p.at'∧p.at' < 2048):=fun p hp=>hat.out p (List.mem_of_mem_take hp)
      have hle:(byS (c.take k) (c[k]).at').length+1≤1000000:=by
        have:=byS_len (c.take k) (c[k]).at'
        rw [List.length_take]at this;omega
      have hle':Hid ((byS (c.take k) (c[k]).at').length+1≤1000000):=hle
      clear hle
      generalize c[k]=p at *
      generalize gE Z.l p.id=ge at *
      have a3:(k:Int) < (nn:Int):=by omega
      have t2:True:=trivial
      have t3:True:=trivial
      go_wp2_with (first
        | (go_at_call 220;refine hG.mono ?_;rintro e w4 ⟨d,n,rfl,m4,b4⟩;clear hG)
        | (clear t2;refine at_newP (by rfl) (by rfl) ?_;intro g5 w5 a5 a6 r5 b5)
        | (clear t3;refine at_putP (by rfl) _ _ (by rfl) g5 (by rfl) p d n (by rfl) _ r5 rfl ?_;intro w6 r6 s6))
      have B5:=bnext (bnext hb b4 (Nat.le_refl _)) b5 (Nat.le_refl _)
      have B6:Below w.heap.size w w6:=((Stp.of_below B5 (fun _=>False)).next s6 (fun x e=> .inr (by have:=(bnext hb b4 (Nat.le_refl _)).size;omega))).below (Nat.le_refl _) (fun x e=>e.elim)
      have B46:Below wr.heap.size wr w6:=((Stp.of_below (bnext b4 b5 (Nat.le_refl _)) (fun _=>False)).next s6 (fun x e=> .inr (by have:=b4.size;omega))).below (Nat.le_refl _) (fun x e=>e.elim)
      have I6:=I.later B46
      obtain⟨v,ev,ov,hob⟩:=I6.look p.at'
      obtain⟨va,vn,vc,rfl⟩:=ov.shape
      have hgm:g5≠m:=by have:=I.mm.lt;have:=b4.size;omega
      have hog:(Value.slice va vn vc).ownBlock≠some g5:=fun e=>by
        cases hf:fm p.at' with
        | none=>rw [hf]at ev;cases ev;cases e
        | some u=>
          rw [hf]at ev
          have hu:u= .slice va vn vc:=ev
          subst hu
          by_cases e':byS (c.take k) p.at'= []
          · rw [I.no _ e']at hf;cases hf
          · obtain⟨u',k1,k2,k3⟩:=I.yes _ e'
            rw [hf]at k1;injection k1 with k1;subst k1
            have:=k2.lt e;have:=b4.size;omega
      have hom:=ov.map_ne I6.mm
      have mm6:=I6.mm
      have hKy:=I6.keys hck.out
      have hKy':Hid (∀ k,(fm k).isSome→0≤k∧k < 2048):=hKy
      have hw6:w.heap.size≤w6.heap.size:=B6.size
      clear hKy b4 b5 s6 r5 m4 B5 a5 a6
      have hvn:vn=(byS (c.take k) p.at').length:=by
        rcases ov.row with⟨e1,e2⟩ | ⟨_,_,_,e1,_⟩
        · rw [e2];cases e1;rfl
        · cases e1;rfl
      subst hvn
      refine wp_region_last (S:=fun u=>Stp (fun x=>(Value.slice va (byS (c.take k) p.at').length vc).ownBlock=some x) w6 u) _ _ (by simp only [List.pop_toArray,List.dropLast_cons_cons,List.dropLast_singleton];rfl) (by simp only [List.back?_toArray,List.getLast?_cons_cons,List.getLast?_singleton];rfl) (by kernel_rfl) (by kernel_rfl) (Stp.refl _ _).drew (fun hHeld=>?_)
      refine tk (i:=0) (oi:=⟨some 23, .move (.tmp 5),187,_,#[],none⟩) (v:= .map (some m)) rfl (Or.inl ⟨by rfl,?_⟩) hHeld ?_
      · intro u hu
        go_simp
      try simp only [zp,zn,zq,zr,zs]
      refine tk (i:=1) (oi:=⟨some 24, .fieldAddr 56 (.tmp 8) 1,0,_,#[],none⟩) (v:= .pointer (some ⟨g5,1,none⟩)) rfl (Or.inl ⟨by rfl,?_⟩) hHeld ?_
      · intro u hu
        go_simp
      try simp only [zp,zn,zq,zr,zs]
      refine tk (i:=2) (oi:=⟨some 25, .load 3 (.tmp 24),3,_,#[⟨1, .data⟩],none⟩) (v:= .int .i64 p.at') rfl (Or.inl ⟨by rfl,?_⟩) hHeld ?_
      · intro u hu
        have x1:=(Pt.cells (r6.step hu hog)).2.1;go_simp
      try simp only [zp,zn,zq,zr,zs]
      refine tk (i:=3) (oi:=⟨some 26, .move (.tmp 5),187,_,#[],none⟩) (v:= .map (some m)) rfl (Or.inl ⟨by rfl,?_⟩) hHeld ?_
      · intro u hu
        go_simp
      try simp only [zp,zn,zq,zr,zs]
      refine tk (i:=4) (oi:=⟨some 27, .fieldAddr 56 (.tmp 8) 1,0,_,#[],none⟩) (v:= .pointer (some ⟨g5,1,none⟩)) rfl (Or.inl ⟨by rfl,?_⟩) hHeld ?_
      · intro u hu
        go_simp
      try simp only [zp,zn,zq,zr,zs]
      refine tk (i:=5) (oi:=⟨some 28, .load 3 (.tmp 27),3,_,#[⟨4, .data⟩],none⟩) (v:= .int .i64 p.at') rfl (Or.inl ⟨by rfl,?_⟩) hHeld ?_
      · intro u hu
        have x1:=(Pt.cells (r6.step hu hog)).2.1;go_simp
      try simp only [zp,zn,zq,zr,zs]
      refine tk (i:=6) (oi:=⟨some 29, .lookup 187 (.tmp 26) (.tmp 28) false,54,_,#[⟨3, .data⟩,⟨5, .data⟩],none⟩) (v:= .slice va (byS (c.take k) p.at').length vc) rfl
        (yields_M' 187 54 uWm _ zI (by rfl) _ _ (by rfl) m fm (by rfl) p.at' (by rfl) hps (fun u hu=>mm6.step hu hom) _ ev) hHeld ?_
      try simp only [zp,zn,zq,zr,zs]
      refine tk (i:=7) (oi:=⟨some 30, .move (.tmp 7),3,_,#[],none⟩) (v:= .int .i64 p.id) rfl (Or.inl ⟨by rfl,?_⟩) hHeld ?_
      · intro u hu
        go_simp
      try simp only [zp,zn,zq,zr,zs]
      refine wpAnyH_ready (rs:= [8]) (by kernel_rfl) (by simp) ?_
      refine(AllReadyH.cons (o:=⟨some 31, .buildSlice 54 1 #[(0, .tmp 30)],54,_,#[⟨7, .data⟩],none⟩) rfl (fun K hK=>?_) AllReadyH.nil)
      refine step_bsI rfl _ (by rfl) p.id (by rfl) ?_
      have ba:Below w6.heap.size w6 (w6.drew.alloc (.cells #[.int .i64 p.id] 3)):=((Below.refl _ w6).drew).alloc (Nat.le_refl _) _
      refine hK.out _ _ (Stp.of_below ba _) (fun hHeld=>?_)
      clear hK K
      try simp only [zp,zn,zq,zr,zs]
      refine wpAnyH_ready (rs:= [9]) (by kernel_rfl) (by simp) ?_
      refine(AllReadyH.cons (o:=⟨some 32, .call { callee:=Callee.builtin Builtin.append,args:=#[.tmp 29, .tmp 31],argTypes:=#[54,54]},54,_,#[⟨6, .data⟩,⟨8, .data⟩],none⟩) rfl (fun K hK=>?_) AllReadyH.nil)
      refine step_appR elI 0 rfl _ _ (by rfl) (by rfl) (ro_later ov ba) (fun r _=>Nat.zero_le r) (some ⟨w6.drew.heap.size,0,none⟩) 1 [.int .i64 p.id] (by rfl) (by simp) (fun e=>by cases e) (fun ad e=>by injection e with e;subst e;exact cell_one_new _ _ _) (by simp [Value.oneCell']) hle'.out (Nat.zero_le _) ?_
      intro v' w9 hA
      obtain⟨A1,A2,A3,A4,_⟩:=hA
      have s9:Stp (fun x=>(Value.slice va (byS (c.take k) p.at').length vc).ownBlock=some x) w6 w9:=(Stp.of_below ba _).trans A4
      refine hK.out _ _ (s9) (fun hHeld=>?_)
      clear hK K
      try simp only [zp,zn,zq,zr,zs]
      refine wpAnyH_done (by kernel_rfl) ?_ _
      have o9:OwV w9 v' (byS (c.take k) p.at'++ [p.id]):=by unfold OwV;simpa using A1
      have hnb:∀ r,v'.ownBlock=some r→(Value.slice va (byS (c.take k) p.at').length vc).ownBlock=some r∨(w6.heap.size≤r∧r < w9.heap.size):=fun r hr=>by
        rcases A3 with e | ⟨e,e2⟩
        · exact .inl (by rw [← e];exact hr)
        · rw [hr]at e;injection e with e
          exact .inr ⟨by rw [e];simp,by rw [e];exact e2⟩
      show wpList _ _ _ [_] _ _
      refine at_updM 187 54 uWm (by rfl) _ _ _ (by rfl) m fm (by rfl) p.at' (by rfl) v' (by rfl) (mm6.step s9 hom) hKy'.out hps ?_
      intro w10 m10 s10
      have J:=I6.more ev s9 o9 hnb hw6 s10 m10
      have B10:Below w.heap.size w w10:=((Stp.of_below B6 (fun _=>False)).next s9 (fun x e=> .inr (hob x e))).below (Nat.le_refl _) (fun x e=>e.elim)
        |>.trans (s10.below (Nat.le_trans B6.size s9.size) (fun x e=>by have:=I.nm;omega))
      clear hHeld
      simp only [Act.put]
      go_wp2_with fail
      go_roundw
      case rel=>exact⟨k+1,by omega,by go_num,B10,_,by rw [hT.out];exact J⟩
      case measure=>simp [intOf];omega
    · have hk':k=c.length:=by omega
      subst hk'
      rw [List.take_length]at I
      go_wp2_with fail
      go_returns
      exact⟨m,fm,rfl,I,hb⟩
end Go.Proofs.YtogdffonjhghcaaGreatDoor
