/-
  Texts of my own, joined: no statement is proved here.
-/
import Derived.Test.YtogdffonjhghcaaGreatDoorJal
set_option linter.unusedSimpArgs false
set_option linter.unusedVariables false
namespace Go.Proofs.YtogdffonjhghcaaGreatDoor
open Go.ChangeShapes Go.WideShapes Go.ChangeAt Go.RowKit
structure Pg where
 b:Blk
 ch:Bool
 pn:Int
def Pg.cs (q:Pg):List Value:=q.b.cs++ [.bool q.ch, .int .i64 q.pn]
theorem Pg.cs_len (q:Pg):q.cs.length=66:=by unfold Pg.cs;rw [List.length_append,q.b.cs_len];rfl
theorem Pg.cs_one (q:Pg):∀ v ∈ q.cs,v.oneCell'=true:=by
 intro v hv
 unfold Pg.cs at hv
 rcases List.mem_append.1 hv with h | h
 · exact q.b.cs_one v h
 · rcases List.mem_cons.1 h with rfl | h
   · rfl
   · rcases List.mem_cons.1 h with rfl | h
     · rfl
     · cases h
abbrev El:=List (Int×Pg)
def fndC:El→Int→Option Pg
 | [],_=>none
 | e::r,i=>if e.1=i then some e.2 else fndC r i
def rmv:El→Int→El
 | [],_=> []
 | e::r,i=>if e.1=i then r else e::rmv r i
def stP (l:El) (i:Int) (q:Pg):El:=l.map fun e=>if e.1=i then(i,q)else e
def hdU (u:Pg→Pg):El→El
 | []=> []
 | e::r=>(e.1,u e.2)::r
def vic:El→Option (Int×Pg)
 | []=>none
 | e::r=>match vic r with
   | some x=>some x
   | none=>if e.2.pn=0 then some e else none
def keys (l:El):List Int:=l.map (·.1)
theorem Z16 (e:Int×Pg) (l:El):keys (e::l)=e.1::keys l:=rfl
theorem Z10 (l:El):(keys l).length=l.length:=List.length_map _
structure CZ where
 d:DS
 p:Option PS
 n:Nat
 l:El
 h:Int
 m:Int
def bkE (d:DS) (p:Option PS) (l:El) (i:Int):Int:=match fndC l i with
 | none=>5
 | some q=>if q.ch=true then Z0b d p i else 0
def CZ.backE (Z:CZ) (i:Int):Int:=bkE Z.d Z.p Z.l i
def CZ.wrt (Z:CZ) (i:Int) (q:Pg):CZ:= { Z with d:=Z.d.write Z.p i q.b,p:=useP Z.d Z.p i,l:=if Z0b Z.d Z.p i=0 then stP Z.l i ⟨q.b,false,q.pn⟩else Z.l}
def CZ.back (Z:CZ) (i:Int):CZ:=match fndC Z.l i with
 | none=>Z
 | some q=>if q.ch=true then Z.wrt i q else Z
def CZ.roomE (Z:CZ):Int:=if Z.l.length < Z.n then 0 else match vic Z.l with
 | none=>4
 | some e=>Z.backE e.1
def CZ.less (Z:CZ) (i:Int):CZ:= { Z with l:=rmv Z.l i}
def CZ.room (Z:CZ):CZ:=if Z.l.length < Z.n then Z else match vic Z.l with
 | none=>Z
 | some e=>if Z.backE e.1=0 then(Z.back e.1).less e.1 else Z.back e.1
def CZ.hit (Z:CZ) (i:Int) (q:Pg):CZ:= { Z with l:=(i,q)::rmv Z.l i,h:=wrap64 (Z.h+1)}
def CZ.miss (Z:CZ) (i:Int) (b:Blk):CZ:= { Z with l:=(i,⟨b,false,0⟩)::Z.l,m:=wrap64 (Z.m+1)}
def CZ.holdE (Z:CZ) (i:Int):Int:=if Z.d.inn i then(match fndC Z.l i with
 | some _=>0
 | none=>Z.roomE)else 2
def CZ.hold (Z:CZ) (i:Int):CZ:=if Z.d.inn i then(match fndC Z.l i with
 | some q=>Z.hit i q
 | none=>if Z.roomE=0 then Z.room.miss i (Z.d.shown i)else Z.room)else Z
def CZ.got (Z:CZ) (i:Int):Blk:=if Z.holdE i=0 then(match fndC (Z.hold i).l i with
 | some q=>q.b
 | none=>Blk.zero)else Blk.zero
def CZ.onHd (Z:CZ) (u:Pg→Pg):CZ:= { Z with l:=hdU u Z.l}
def CZ.put (Z:CZ) (i:Int) (b:Blk):CZ:=if Z.holdE i=0 then(Z.hold i).onHd (fun q=>⟨b,true,q.pn⟩)else Z.hold i
def CZ.frc (Z:CZ) (i:Int) (b:Blk):CZ:= { Z with d:=Z.d.force Z.p i b,p:=useP Z.d Z.p i,l:=if Z0b Z.d Z.p i=0 then hdU (fun q=>⟨b,false,q.pn⟩) Z.l else Z.l}
def CZ.forceE (Z:CZ) (i:Int):Int:=if Z.holdE i=0 then Z0b (Z.hold i).d (Z.hold i).p i else Z.holdE i
def CZ.force (Z:CZ) (i:Int) (b:Blk):CZ:=if Z.holdE i=0 then(Z.hold i).frc i b else Z.hold i
def CZ.setP (Z:CZ) (i:Int) (q:Pg):CZ:= { Z with l:=stP Z.l i q}
section
variable {l r : El} {i j : Int} {q q' : Pg} {e : Int × Pg}
theorem Z1s:fndC l i=none↔i ∉ keys l:=by
 induction l with
 | nil=>simp [fndC,keys]
 | cons a t ih=>
   unfold fndC
   rw [Z16]
   by_cases h:a.1=i
   · rw [if_pos h];simp [h]
   · rw [if_neg h,ih];simp [Ne.symm h]
theorem Z4p (h:fndC l i=some q):(i,q) ∈ l:=by
 induction l with
 | nil=>cases h
 | cons a t ih=>
   unfold fndC at h
   by_cases e:a.1=i
   · rw [if_pos e]at h;injection h with h;subst h;subst e;simp
   · rw [if_neg e]at h;exact List.mem_cons_of_mem _ (ih h)
theorem Z5v (h:(i,q) ∈ l):i ∈ keys l:=List.mem_map_of_mem (f:=(·.1)) h
theorem Z6b (hn:(keys l).Nodup) (h:(i,q) ∈ l):fndC l i=some q:=by
 induction l with
 | nil=>cases h
 | cons a t ih=>
   rw [Z16,List.nodup_cons]at hn
   unfold fndC
   rcases List.mem_cons.1 h with h | h
   · subst h;simp
   · have:a.1≠i:=fun e=>hn.1 (e▸Z5v h)
     rw [if_neg this];exact ih hn.2 h
theorem Zpd (h:i ∉ keys l):rmv l i=l:=by
 induction l with
 | nil=>rfl
 | cons a t ih=>
   rw [Z16]at h
   simp only [List.mem_cons,not_or]at h
   unfold rmv;rw [if_neg (Ne.symm h.1),ih h.2]
theorem Z3x (l:El) (i:Int):keys (rmv l i)=(keys l).erase i:=by
 induction l with
 | nil=>rfl
 | cons a t ih=>
   unfold rmv
   rw [Z16,List.erase_cons]
   by_cases h:a.1=i
   · rw [if_pos h,if_pos (by simpa using h)]
   · rw [if_neg h,if_neg (by simpa using h),Z16,ih]
theorem Z7w (h:e ∈ rmv l i):e ∈ l:=by
 induction l with
 | nil=>cases h
 | cons a t ih=>
   unfold rmv at h
   by_cases h1:a.1=i
   · rw [if_pos h1]at h;exact List.mem_cons_of_mem _ h
   · rw [if_neg h1]at h
     rcases List.mem_cons.1 h with h | h
     · rw [h];simp
     · exact List.mem_cons_of_mem _ (ih h)
theorem Z7r (hn:(keys l).Nodup) (j:Int):fndC (rmv l i) j=if j=i then none else fndC l j:=by
 induction l with
 | nil=>simp [rmv,fndC]
 | cons a t ih=>
   rw [Z16,List.nodup_cons]at hn
   unfold rmv
   by_cases h:a.1=i
   · rw [if_pos h]
     by_cases hj:j=i
     · rw [if_pos hj,Z1s,hj,← h];exact hn.1
     · rw [if_neg hj];conv=>rhs;unfold fndC
       rw [if_neg (fun e=>hj (by rw [← e,h]))]
   · rw [if_neg h]
     unfold fndC
     by_cases ha:a.1=j
     · rw [if_pos ha,if_neg (fun e=>h (by rw [ha,e]))];simp [ha]
     · rw [if_neg ha,ih hn.2];simp [ha]
theorem Zal (h:i ∈ keys l):(rmv l i).length+1=l.length:=by
 have:=congrArg List.length (Z3x l i)
 rw [Z10,List.length_erase_of_mem h,Z10]at this
 have h2:0 < (keys l).length:=List.length_pos_of_mem h
 rw [Z10]at h2
 omega
theorem Z75 (l:El) (i:Int) (q:Pg):keys (stP l i q)=keys l:=by
 unfold keys stP
 rw [List.map_map]
 apply List.map_congr_left
 intro e _
 simp only [Function.comp]
 split<;>rename_i h
 · exact h.symm
 · rfl
theorem Zlr (j:Int):fndC (stP l i q) j=if j=i then(fndC l i).map (fun _=>q)else fndC l j:=by
 induction l with
 | nil=>simp [stP,fndC]
 | cons a t ih=>
   unfold stP at ih ⊢
   rw [List.map_cons]
   unfold fndC
   by_cases h:a.1=i
   · rw [if_pos h]
     simp only [h]
     by_cases hj:j=i
     · simp [hj]
     · rw [if_neg (Ne.symm hj),if_neg (Ne.symm hj),if_neg hj,ih,if_neg hj]
   · rw [if_neg h]
     by_cases hj:a.1=j
     · rw [if_pos hj,if_pos hj,if_neg (fun e=>h (by rw [hj,e]))]
     · rw [if_neg hj,if_neg hj,ih,if_neg h]
theorem Zcz (h:e ∈ stP l i q):e=(i,q)∨e ∈ l:=by
 unfold stP at h
 obtain⟨a,ha,rfl⟩:=List.mem_map.1 h
 split
 · exact .inl rfl
 · exact .inr ha
theorem Zm1 (l:El) (i:Int) (q:Pg):(stP l i q).length=l.length:=List.length_map _
theorem Zml (l:El) (i:Int) (q:Pg):rmv (stP l i q) i=rmv l i∨¬(keys l).Nodup:=by
 by_cases hn:(keys l).Nodup
 · left
   induction l with
   | nil=>rfl
   | cons a t ih=>
     rw [Z16,List.nodup_cons]at hn
     unfold stP at ih ⊢
     rw [List.map_cons]
     unfold rmv
     by_cases h:a.1=i
     · rw [if_pos h]
       simp only [h,if_true]
       have:∀ e ∈ t,(if e.1=i then(i,q)else e)=e:=fun e he=>if_neg (fun e1=>hn.1 (by rw [h,← e1];exact List.mem_map_of_mem (f:=(·.1)) he))
       rw [List.map_congr_left this];simp
     · rw [if_neg h,if_neg h,if_neg h,ih hn.2]
 · exact .inr hn
theorem Zax (h:vic l=some e):e ∈ l∧e.2.pn=0:=by
 induction l with
 | nil=>cases h
 | cons a t ih=>
   unfold vic at h
   cases hv:vic t with
   | some x=>rw [hv]at h;injection h with h;subst h;obtain⟨h1,h2⟩:=ih hv;exact⟨List.mem_cons_of_mem _ h1,h2⟩
   | none=>
     rw [hv]at h
     by_cases hp:a.2.pn=0
     · simp only [hp,if_true]at h;injection h with h;subst h;exact⟨List.mem_cons_self,hp⟩
     · simp only [hp,if_false]at h;cases h
end
structure CZ.ok (t:Nat) (Z:CZ):Prop where
 n1:1≤Z.n
 n2:Z.n≤64
 nd:(keys Z.l).Nodup
 inn:∀ e ∈ Z.l,Z.d.inn e.1
 len:Z.l.length≤Z.n
 pin:∀ e ∈ Z.l,0≤e.2.pn∧e.2.pn≤t
 wt:∀ i,(Z.d.wt i).length≤t
 sp:∀ s,Z.p=some s→okAt s t
section
variable {Z : CZ} {t : Nat} {i : Int} {q : Pg} {b : Blk}
theorem Z3k {s:PS} {k k':Nat} (h:okAt s k) (hk:k≤k'):okAt s k':=by unfold okAt at *;omega
theorem CZ.ok.mono (h:Z.ok t) {t':Nat} (ht:t≤t'):Z.ok t':=
 ⟨h.n1,h.n2,h.nd,h.inn,h.len,fun e he=>⟨(h.pin e he).1,by have:=(h.pin e he).2;omega⟩,fun i=>Nat.le_trans (h.wt i) ht,fun s hs=>Z3k (h.sp s hs) ht⟩
theorem Z2z {s:PS} {t:Nat} (h:okAt s t):okAt s.use (t+1):=by
 unfold okAt at *
 unfold PS.use PS.reckon PS.useErr PS.down
 cases hl:s.lim<;>cases hg:s.gone<;>simp
 · omega
 · omega
 · by_cases h0:s.left=0
   · simp [h0];omega
   · simp [h0];omega
 · omega
theorem Zaw (h:Z.ok t) (i:Int):∀ s,useP Z.d Z.p i=some s→okAt s (t+1):=by
 intro s hs
 unfold useP at hs
 by_cases hi:Z.d.inn i
 · rw [if_pos hi]at hs
   unfold oUse at hs
   cases hp:Z.p with
   | none=>rw [hp]at hs;cases hs
   | some s0=>rw [hp]at hs;injection hs with hs;subst hs;exact Z2z (h.sp s0 hp)
 · rw [if_neg hi]at hs;exact Z3k (h.sp s hs) (by omega)
theorem Z80 (d:DS) (p:Option PS) (i:Int) (b:Blk):(d.write p i b).n=d.n:=by unfold DS.write;split<;>rfl
theorem Zn8 (d:DS) (p:Option PS) (i:Int) (b:Blk) (j:Int):((d.write p i b).wt j).length≤(d.wt j).length+1:=by
 unfold DS.write
 split
 · simp only [DS.count,DS.wrote]
   split<;>rename_i e
   · rw [e];simp
   · omega
 · omega
theorem Zoe (d:DS) (p:Option PS) (i:Int) (b:Blk):(d.force p i b).n=d.n:=by unfold DS.force;split<;>rfl
theorem Zlt (d:DS) (p:Option PS) (i:Int) (b:Blk) (j:Int):((d.force p i b).wt j).length≤(d.wt j).length:=by
 unfold DS.force
 split
 · simp only [DS.count,DS.settle]
   split<;>rename_i e
   · simp
   · omega
 · omega
theorem CZ.ok.wrt (h:Z.ok t) (hq:fndC Z.l i=some q):(Z.wrt i q).ok (t+1):=by
 have hm:=Z4p hq
 refine⟨h.n1,h.n2,?_,?_,?_,?_,fun j=>Nat.le_trans (Zn8 _ _ _ _ j) (by have:=h.wt j;omega),Zaw h i⟩
 · show(keys (if _ then _ else _)).Nodup
   split
   · rw [Z75];exact h.nd
   · exact h.nd
 · intro e he
   have:(Z.wrt i q).d.n=Z.d.n:=Z80 _ _ _ _
   unfold DS.inn;rw [this]
   have he':e ∈ (if Z0b Z.d Z.p i=0 then stP Z.l i ⟨q.b,false,q.pn⟩else Z.l):=he
   split at he'
   · rcases Zcz he' with rfl | he'
     · exact h.inn (i,q) hm
     · exact h.inn e he'
   · exact h.inn e he'
 · show(if _ then _ else _:El).length≤_
   split
   · rw [Zm1];exact h.len
   · exact h.len
 · intro e he
   have he':e ∈ (if Z0b Z.d Z.p i=0 then stP Z.l i ⟨q.b,false,q.pn⟩else Z.l):=he
   have:∀ x ∈ Z.l,0≤x.2.pn∧x.2.pn≤(t+1:Nat):=fun x hx=>⟨(h.pin x hx).1,by have:=(h.pin x hx).2;omega⟩
   split at he'
   · rcases Zcz he' with rfl | he'
     · exact this (i,q) hm
     · exact this e he'
   · exact this e he'
theorem CZ.ok.back (h:Z.ok t) (i:Int):(Z.back i).ok (t+1):=by
 unfold CZ.back
 cases hq:fndC Z.l i with
 | none=>exact h.mono (by omega)
 | some q=>
   simp only
   split
   · exact h.wrt hq
   · exact h.mono (by omega)
theorem CZ.ok.less (h:Z.ok t) (i:Int):(Z.less i).ok t:=by
 refine⟨h.n1,h.n2,?_,fun e he=>h.inn e (Z7w he),?_,fun e he=>h.pin e (Z7w he),h.wt,h.sp⟩
 · show(keys (rmv _ _)).Nodup
   rw [Z3x];exact h.nd.erase i
 · show(rmv Z.l i).length≤Z.n
   by_cases hi:i ∈ keys Z.l
   · have:=Zal hi;have:=h.len;omega
   · rw [Zpd hi];exact h.len
theorem CZ.ok.room (h:Z.ok t):Z.room.ok (t+1):=by
 unfold CZ.room
 split
 · exact h.mono (by omega)
 · split
   · exact h.mono (by omega)
   · split
     · exact(h.back _).less _
     · exact h.back _
theorem Zhz (Z:CZ) (i:Int):(Z.back i).n=Z.n:=by
 unfold CZ.back;split
 · rfl
 · split<;>rfl
theorem Zf1 (Z:CZ) (i:Int):(Z.back i).d.n=Z.d.n:=by
 unfold CZ.back;split
 · rfl
 · split
   · exact Z80 _ _ _ _
   · rfl
theorem Z2r (Z:CZ) (i:Int):keys (Z.back i).l=keys Z.l:=by
 unfold CZ.back;split
 · rfl
 · split
   · show keys (if _ then _ else _)=_
     split
     · exact Z75 _ _ _
     · rfl
   · rfl
theorem Zr8 (Z:CZ):Z.room.n=Z.n:=by
 unfold CZ.room;split
 · rfl
 · split
   · rfl
   · split
     · exact Zhz _ _
     · exact Zhz _ _
theorem Zaq (Z:CZ):Z.room.d.n=Z.d.n:=by
 unfold CZ.room;split
 · rfl
 · split
   · rfl
   · split
     · exact Zf1 _ _
     · exact Zf1 _ _
theorem Zbj (Z:CZ) (h:i ∈ keys Z.room.l):i ∈ keys Z.l:=by
 unfold CZ.room at h;split at h
 · exact h
 · split at h
   · exact h
   · split at h
     · have h':i ∈ keys (rmv (Z.back _).l _):=h
       rw [Z3x,Z2r]at h'
       exact List.mem_of_mem_erase h'
     · rw [Z2r]at h;exact h
theorem Zjt (h:Z.ok t) (he:Z.roomE=0):Z.room.l.length < Z.n:=by
 unfold CZ.roomE at he
 unfold CZ.room
 split at he
 · rename_i h1;rw [if_pos h1];exact h1
 · rename_i h1
   rw [if_neg h1]
   cases hv:vic Z.l with
   | none=>rw [hv]at he;cases he
   | some e=>
     rw [hv]at he
     have he':Z.backE e.1=0:=he
     simp only [he',if_true]
     show(rmv (Z.back e.1).l e.1).length < Z.n
     have hk:e.1 ∈ keys (Z.back e.1).l:=by rw [Z2r];exact Z5v (q:=e.2) (Zax hv).1
     have h2:=Zal hk
     have h3:(Z.back e.1).l.length=Z.l.length:=by rw [← Z10,Z2r,Z10]
     have:=h.len
     omega
theorem CZ.ok.hit (h:Z.ok t) (hq:fndC Z.l i=some q):(Z.hit i q).ok t:=by
 have hm:=Z4p hq
 have hk:=Z5v hm
 refine⟨h.n1,h.n2,?_,?_,?_,?_,h.wt,h.sp⟩
 · show(keys ((i,q)::rmv Z.l i)).Nodup
   rw [Z16,Z3x,List.nodup_cons]
   exact⟨List.Nodup.not_mem_erase h.nd,h.nd.erase i⟩
 · intro e he
   rcases List.mem_cons.1 he with rfl | he
   · exact h.inn _ hm
   · exact h.inn e (Z7w he)
 · show((i,q)::rmv Z.l i).length≤Z.n
   have:=Zal hk;have:=h.len
   simp only [List.length_cons];omega
 · intro e he
   rcases List.mem_cons.1 he with rfl | he
   · exact h.pin _ hm
   · exact h.pin e (Z7w he)
theorem CZ.ok.miss (h:Z.ok t) (hi:Z.d.inn i) (hn:fndC Z.l i=none) (hl:Z.l.length < Z.n) (b:Blk):(Z.miss i b).ok t:=by
 refine⟨h.n1,h.n2,?_,?_,?_,?_,h.wt,h.sp⟩
 · show(keys ((i,_)::Z.l)).Nodup
   rw [Z16,List.nodup_cons]
   exact⟨Z1s.1 hn,h.nd⟩
 · intro e he
   rcases List.mem_cons.1 he with rfl | he
   · exact hi
   · exact h.inn e he
 · show((i,_)::Z.l:El).length≤Z.n
   simp only [List.length_cons];omega
 · intro e he
   rcases List.mem_cons.1 he with rfl | he
   · exact⟨by simp,by simp⟩
   · exact h.pin e he
theorem CZ.ok.hold (h:Z.ok t) (i:Int):(Z.hold i).ok (t+1):=by
 unfold CZ.hold
 split
 · rename_i hi
   cases hq:fndC Z.l i with
   | some q=>exact(h.hit hq).mono (by omega)
   | none=>
     simp only
     split
     · rename_i he
       refine h.room.miss (by unfold DS.inn;rw [Zaq];exact hi) (Z1s.2 fun hk=>Z1s.1 hq (Zbj Z hk)) (by rw [Zr8];exact Zjt h he) _
     · exact h.room
 · exact h.mono (by omega)
theorem Z56 (h:Z.holdE i=0):∃ q r,(Z.hold i).l=(i,q)::r:=by
 unfold CZ.holdE at h
 unfold CZ.hold
 split at h
 · rename_i hi
   rw [if_pos hi]
   cases hq:fndC Z.l i with
   | some q=>exact⟨_,_,rfl⟩
   | none=>
     rw [hq]at h
     have h':Z.roomE=0:=h
     simp only [h',if_true]
     exact⟨_,_,rfl⟩
 · cases h
theorem CZ.ok.onHd (h:Z.ok t) (u:Pg→Pg) (hu:∀ q,(u q).pn=q.pn):(Z.onHd u).ok t:=by
 cases hl:Z.l with
 | nil=>
   have:Z.onHd u=Z:=by cases Z;simp only at hl;subst hl;rfl
   rw [this];exact h
 | cons e r=>
   have he:(Z.onHd u).l=(e.1,u e.2)::r:=by unfold CZ.onHd;simp only;rw [hl];rfl
   refine⟨h.n1,h.n2,?_,?_,?_,?_,h.wt,h.sp⟩
   · rw [he];have:=h.nd;rw [hl]at this;exact this
   · rw [he];intro x hx
     rcases List.mem_cons.1 hx with rfl | hx
     · exact h.inn e (by rw [hl];simp)
     · exact h.inn x (by rw [hl];exact List.mem_cons_of_mem _ hx)
   · rw [he];have:=h.len;rw [hl]at this;exact this
   · rw [he];intro x hx
     rcases List.mem_cons.1 hx with rfl | hx
     · simp only [hu];exact h.pin e (by rw [hl];simp)
     · exact h.pin x (by rw [hl];exact List.mem_cons_of_mem _ hx)
theorem CZ.ok.put (h:Z.ok t) (i:Int) (b:Blk):(Z.put i b).ok (t+1):=by
 unfold CZ.put
 split
 · exact(h.hold i).onHd _ (fun _=>rfl)
 · exact h.hold i
theorem CZ.ok.frc (h:Z.ok t) (i:Int) (b:Blk):(Z.frc i b).ok (t+1):=by
 have h2:(Z.onHd (fun q=>⟨b,false,q.pn⟩)).ok t:=h.onHd _ (fun _=>rfl)
 have hn:(Z.frc i b).d.n=Z.d.n:=Zoe _ _ _ _
 have hw:∀ j,((Z.frc i b).d.wt j).length≤t+1:=fun j=>Nat.le_trans (Zlt _ _ _ _ j) (by have:=h.wt j;omega)
 by_cases he:Z0b Z.d Z.p i=0
 · have hl:(Z.frc i b).l=(Z.onHd (fun q=>⟨b,false,q.pn⟩)).l:=if_pos he
   exact⟨h.n1,h.n2,by rw [hl];exact h2.nd,fun e hx=>by unfold DS.inn;rw [hn];rw [hl]at hx;exact h2.inn e hx,by rw [hl];exact h2.len,fun e hx=>by rw [hl]at hx;have:=h2.pin e hx;omega,hw,Zaw h i⟩
 · have hl:(Z.frc i b).l=Z.l:=if_neg he
   exact⟨h.n1,h.n2,by rw [hl];exact h.nd,fun e hx=>by unfold DS.inn;rw [hn];rw [hl]at hx;exact h.inn e hx,by rw [hl];exact h.len,fun e hx=>by rw [hl]at hx;have:=h.pin e hx;omega,hw,Zaw h i⟩
theorem CZ.ok.force (h:Z.ok t) (i:Int) (b:Blk):(Z.force i b).ok (t+2):=by
 unfold CZ.force
 split
 · exact(h.hold i).frc i b
 · exact(h.hold i).mono (by omega)
end
end Go.Proofs.YtogdffonjhghcaaGreatDoor
