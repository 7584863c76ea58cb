/-
  Texts of my own, joined: no statement is proved here.
-/
import Derived.Laws.CopyOwn
import Derived.Laws.Cover3
import Derived.Laws.ResultCell
import Derived.Deep.RegionHeld3
import Derived.Maps.AppendAt
import Derived.Laws.AppendOwnNone
import Derived.Lib.Walk
import Derived.Test.YtogdffonjhghcaaGreatDoorJab
set_option linter.unusedSimpArgs false
set_option linter.unusedVariables false
namespace Go.Proofs.YtogdffonjhghcaaGreatDoor
open Go.ChangeShapes Go.WideShapes Go.ChangeAt Go.RowKit
structure Pt where
 id:Int
 at':Int
 off:Int
 data:List Int
 kind:Int
 needs:List Int
 own:Int
 child:Int
 wr:Bool
def Pt.zero:Pt:=⟨0,0,0, [],0, [],0,0,false⟩
def wfi (x:Int):Prop:=(Lit.int .i64 x).wf=true
theorem Z0z {x:Int} (h: -9223372036854775808≤x∧x≤9223372036854775807):wfi x:=by
 unfold wfi;simp [Lit.wf,IntKind.min,IntKind.max,IntKind.bits,IntKind.signed];omega
theorem Z7i {x:Int} (h:wfi x): -9223372036854775808≤x∧x≤9223372036854775807:=by
 unfold wfi at h;simp [Lit.wf,IntKind.min,IntKind.max,IntKind.bits,IntKind.signed]at h;omega
def fit (p:Pt):Bool:=decide (0≤p.at')&&decide (p.at' < 2048)&&decide (0≤p.kind)&&decide (p.kind≤6)&&decide (0 < (p.data.length:Int))&&decide (0≤p.off)&&decide (p.off≤(if p.kind=0 then 64 else 54) - (p.data.length:Int))
theorem Z13 {p:Pt} (h:fit p=true):0≤p.at'∧p.at' < 2048∧0≤p.kind∧p.kind≤6∧0 < (p.data.length:Int)∧0≤p.off∧p.off+(p.data.length:Int)≤64:=by
 unfold fit at h
 simp only [Bool.and_eq_true,decide_eq_true_eq]at h
 obtain⟨⟨⟨⟨⟨⟨h1,h2⟩,h3⟩,h4⟩,h5⟩,h6⟩,h7⟩:=h
 refine⟨h1,h2,h3,h4,h5,h6,?_⟩
 split at h7<;>omega
def givn (last:Int) (l:List Int):Bool:=l.all fun x=>decide (1≤x)&&decide (x≤last)
def fnd (l:List Pt) (i:Int):Option Pt:=l.find? fun p=>p.id==i
def has (l:List Pt) (i:Int):Bool:=l.any fun p=>p.id==i
def inS (s:Int) (p:Pt):Bool:=p.at'==s&& !p.wr
def wtP (l:List Pt) (s:Int):List Pt:=l.filter (inS s)
def ids (l:List Pt):List Int:=l.map (·.id)
def wts (l:List Pt) (s:Int):List Int:=ids (wtP l s)
def meet (a b:Pt):Bool:=a.at'==b.at'&&(a.kind != b.kind||(decide (a.off < b.off+(b.data.length:Int))&&decide (b.off < a.off+(a.data.length:Int))))
def held (l:List Pt) (p:Pt):Bool:=p.needs.any (has l)
def rdS (l:List Pt):List Pt→List Pt→List Pt
 | _, []=> []
 | late,p::r=>if held l p||late.any (fun q=>meet q p)then rdS l (late++ [p]) r else p::rdS l late r
def rdy (l:List Pt) (s:Int):List Int:=ids (rdS l [] (wtP l s))
def bhd (l:List Pt) (p:Pt):Bool:=l.any fun q=>decide (q.id < p.id)&& !q.wr&&meet q p
structure GZ where
 last:Int
 l:List Pt
def GZ.new:GZ:=⟨0, []⟩
def setW (l:List Pt) (i:Int):List Pt:=l.map fun p=>if p.id=i then { p with wr:=true} else p
def GZ.addOk (Z:GZ) (p:Pt):Bool:=fit p&&givn Z.last p.needs
def GZ.add (Z:GZ) (p:Pt):GZ:=if Z.addOk p then⟨Z.last+1,Z.l++ [{ p with id:=Z.last+1,wr:=false}]⟩else Z
def GZ.addN (Z:GZ) (p:Pt):Int:=if Z.addOk p then Z.last+1 else 0
def GZ.addE (Z:GZ) (p:Pt):Int:=if Z.addOk p then 0 else 2
def wE (l:List Pt) (i:Int):Int:=match fnd l i with
 | none=>5
 | some p=>if p.wr||held l p||bhd l p then 23 else 0
def GZ.wr1 (Z:GZ) (i:Int):GZ:=if wE Z.l i=0 then { Z with l:=setW Z.l i} else Z
def GZ.wrE (Z:GZ):List Int→Int
 | []=>0
 | i::r=>if wE Z.l i=0 then(Z.wr1 i).wrE r else wE Z.l i
def GZ.wr (Z:GZ):List Int→GZ
 | []=>Z
 | i::r=>if wE Z.l i=0 then(Z.wr1 i).wr r else Z
def GZ.stl (Z:GZ) (q:Pt→Bool):GZ:= { Z with l:=Z.l.filter fun p=> !(p.wr&&q p)}
def GZ.stlN (Z:GZ) (q:Pt→Bool):Int:=((Z.l.filter fun p=>p.wr&&q p).length:Int)
structure GZ.ok (Z:GZ) (t:Int):Prop where
 srt:Z.l.Pairwise fun a b=>a.id < b.id
 rng:∀ p ∈ Z.l,1≤p.id∧p.id≤Z.last
 ft:∀ p ∈ Z.l,fit p=true
 nds:∀ p ∈ Z.l,∀ x ∈ p.needs,1≤x∧x < p.id
 wf:∀ p ∈ Z.l,wfi p.own∧wfi p.child
 l0:0≤Z.last
 lt:Z.last≤t
section
variable {l : List Pt} {p q : Pt} {i s : Int}
theorem Z1r (h:fnd l i=some p):p ∈ l∧p.id=i:=by
 unfold fnd at h
 exact⟨List.mem_of_find?_eq_some h,by have:=List.find?_some h;simpa using this⟩
theorem Z7t:has l i=(fnd l i).isSome:=by
 unfold has fnd
 induction l with
 | nil=>rfl
 | cons a t ih=>by_cases e:a.id==i<;>simp [List.find?_cons,e,ih]
theorem Z29 (hs:l.Pairwise fun a b=>a.id < b.id) (hp:p ∈ l):fnd l p.id=some p:=by
 induction l with
 | nil=>cases hp
 | cons a t ih=>
   rw [List.pairwise_cons]at hs
   unfold fnd
   rw [List.find?_cons]
   rcases List.mem_cons.1 hp with rfl | hp
   · simp
   · have:=hs.1 p hp
     have e:(a.id==p.id)=false:=by simp;omega
     rw [e];exact ih hs.2 hp
theorem Zcl (hn:p.id=i) (h:∀ q ∈ l,q.id≠i) (k:Int):fnd (l++ [p]) k=if k=i then some p else fnd l k:=by
 unfold fnd
 rw [List.find?_append]
 by_cases e:k=i
 · subst e
   rw [if_pos rfl]
   have:l.find? (fun p=>p.id==k)=none:=List.find?_eq_none.2 (fun q hq=>by simpa using h q hq)
   rw [this];simp [hn]
 · rw [if_neg e]
   have:List.find? (fun p=>p.id==k) [p]=none:=by simp;omega
   rw [this,Option.or_none]
theorem Zpk (l:List Pt) (i:Int):ids (setW l i)=ids l:=by
 unfold ids setW
 rw [List.map_map]
 refine List.map_congr_left fun p _=>?_
 by_cases e:p.id=i<;>simp [e]
theorem Zck (l:List Pt) (i k:Int):fnd (setW l i) k=if k=i then(fnd l i).map (fun p=> { p with wr:=true})else fnd l k:=by
 unfold fnd setW
 rw [List.find?_map]
 have e0:((fun p:Pt=>p.id==k)∘fun p:Pt=>if p.id=i then { p with wr:=true} else p)=fun p=>p.id==k:=by
  funext p
  by_cases e:p.id=i<;>simp [e]
 rw [e0]
 by_cases e:k=i
 · subst e
   rw [if_pos rfl]
   cases h:l.find? (fun p=>p.id==k)with
   | none=>rfl
   | some p=>have:=List.find?_some h;simp at this;simp [this]
 · rw [if_neg e]
   cases h:l.find? (fun p=>p.id==k)with
   | none=>rfl
   | some p=>have:=List.find?_some h;simp at this;simp [this,e]
theorem Z2b {x:Int} :x ∈ wts l s↔∃ p ∈ l,p.id=x∧p.at'=s∧p.wr=false:=by
 unfold wts ids wtP inS
 simp only [List.mem_map,List.mem_filter,Bool.and_eq_true,beq_iff_eq,Bool.not_eq_true']
 constructor
 · rintro ⟨p,⟨h1,h2,h3⟩,h4⟩;exact⟨p,h1,h4,h2,h3⟩
 · rintro ⟨p,h1,h4,h2,h3⟩;exact⟨p,⟨h1,h2,h3⟩,h4⟩
theorem Ze6 (l:List Pt) (p:Pt) (s:Int) (hp:p.wr=false):wtP (l++ [p]) s=if s=p.at' then wtP l s++ [p]else wtP l s:=by
 unfold wtP inS
 rw [List.filter_append]
 by_cases e:s=p.at'
 · subst e;simp [hp]
 · rw [if_neg e];simp [hp,Ne.symm e]
theorem Znc (l:List Pt) (p:Pt) (s:Int) (hp:p.wr=false):wts (l++ [p]) s=if s=p.at' then wts l s++ [p.id]else wts l s:=by
 unfold wts
 rw [Ze6 l p s hp]
 split<;>simp [ids]
theorem Zna (l:List Pt) (i:Int) (s:Int):wtP (setW l i) s=(wtP l s).filter fun q=> !(q.id==i):=by
 unfold wtP setW
 rw [List.filter_filter,List.filter_map]
 have e1:((inS s)∘fun p:Pt=>if p.id=i then { p with wr:=true} else p)=fun q=> !(q.id==i)&&inS s q:=by
  funext q
  by_cases e:q.id=i<;>simp [e,inS]
 rw [e1]
 conv=>rhs;rw [← List.map_id (l.filter _)]
 refine List.map_congr_left fun q hq=>?_
 have:=(List.mem_filter.1 hq).2
 have e:q.id≠i:=by simp at this;exact this.1
 simp [e]
theorem Zgm (l:List Pt) (i:Int):ids (l.filter fun q=> !(q.id==i))=(ids l).filter fun x=> !(x==i):=by
 unfold ids;rw [List.filter_map];rfl
theorem Znb (l:List Pt) (i:Int) (s:Int):wts (setW l i) s=(wts l s).filter fun x=> !(x==i):=by
 unfold wts;rw [Zna,Zgm]
theorem Zq4 (hs:l.Pairwise fun a b=>a.id < b.id) (s:Int):(wts l s).Pairwise (· < ·):=by
 unfold wts ids
 rw [List.pairwise_map]
 exact hs.filter _
end
theorem Z9p:∀ (l:List Pt) (lo hi:Int),(l.Pairwise fun a b=>a.id < b.id)→(∀ p ∈ l,lo < p.id∧p.id≤hi)→lo≤hi→(l.length:Int)≤hi - lo
 | [],lo,hi,_,_,h=>by simp;omega
 | a::t,lo,hi,hs,h,h0=>by
   rw [List.pairwise_cons]at hs
   have ha:=h a (by simp)
   have:=Z9p t a.id hi hs.2 (fun p hp=>⟨hs.1 p hp,(h p (by simp [hp])).2⟩) ha.2
   simp only [List.length_cons];push_cast;omega
theorem GZ.ok.few {Z:GZ} {t:Int} (h:Z.ok t):(Z.l.length:Int)≤t:=by
 have:=Z9p Z.l 0 Z.last h.srt (fun p hp=>by have:=h.rng p hp;omega) h.l0
 have:=h.lt
 omega
theorem GZ.ok.fewW {Z:GZ} {t:Int} (h:Z.ok t) (s:Int):((wtP Z.l s).length:Int)≤t:=by
 have h1:=h.few
 have h2:(wtP Z.l s).length≤Z.l.length:=by unfold wtP;exact List.length_filter_le _ _
 omega
theorem Z1v {w:World} {g o:Nat} {t:TypeId} {cur:Array Value} (vs:List Value) (hg:w.heap[g]? =some (.cells cur t (0,0))) (hl:o+vs.length≤cur.size) (h1:∀ v ∈ vs,v.oneCell'=true):
 (w.setCells g o vs).heap[g]? =some (.cells (cur.toList.take o++vs++cur.toList.drop (o+vs.length)).toArray t (0,0)):=by
 have e1:=run_storeCells_cells (P:=Tryz.prog) g o vs 0 w (fun j hj=>by
  rw [cell_of_row w g _ _ _ (0,0) hg,Array.getElem?_eq_getElem (by omega)];rfl) (fun j hj=>by simp [World.frozen?,hg]) h1
 have e2:=run_storeCells_at Tryz.prog g o t vs 0 cur w hg (by omega) h1
 simp only [Nat.add_zero]at e1 e2
 rw [e1]at e2
 injection e2 with _ e2
 rw [e2]
 exact setRow_heap w g _ _ t _ hg
structure Cs (w:World) (g:Nat) (cs:List Value):Prop where
 here:∃ t,w.heap[g]? =some (.cells cs.toArray t (0,0))
 one:∀ v ∈ cs,v.oneCell'=true
section
variable {w w' : World} {g : Nat} {cs : List Value} {F : Nat → Prop}
theorem Cs.lt (h:Cs w g cs):g < w.heap.size:=by
 obtain⟨⟨t,h⟩,_⟩:=h
 exact(Array.getElem?_eq_some_iff.1 h).1
theorem Cs.step (h:Cs w g cs) (k:Stp F w w') (hg:¬F g):Cs w' g cs:=by
 have hl:=h.lt
 obtain⟨⟨t,h⟩,h1⟩:=h
 exact⟨⟨t,by rw [k.block g hl hg];exact h⟩,h1⟩
theorem Cs.later (h:Cs w g cs) (k:Below w.heap.size w w'):Cs w' g cs:=h.step (Stp.of_below k (fun _=>False)) id
theorem Cs.cell (h:Cs w g cs) (i:Nat) (v:Value) (hi:cs[i]? =some v):w.cell? ⟨g,i,none⟩=some v:=by
 obtain⟨⟨t,h⟩,_⟩:=h
 rw [cell_of_row w g i _ t (0,0) h,List.getElem?_toArray];exact hi
theorem Cs.frozen (h:Cs w g cs) (i:Nat):w.frozen? ⟨g,i,none⟩=false:=by
 obtain⟨⟨t,h⟩,_⟩:=h
 simp [World.frozen?,h]
theorem Cs.range (h:Cs w g cs):w.rangeAt g 0 cs:=fun j v hv=>by
 rw [Nat.zero_add];exact h.cell j v hv
theorem Cs.there (h:Cs w g cs):w.there g 0 cs.length:=fun j hj=>by
 refine⟨?_,h.frozen _⟩
 rw [Nat.zero_add,h.cell j _ (List.getElem?_eq_getElem hj)];rfl
theorem Cs.made (w:World) (cs:List Value) (t:TypeId) (h1:∀ v ∈ cs,v.oneCell'=true):Cs (w.alloc (.cells cs.toArray t)) w.heap.size cs:=⟨⟨t,heap_alloc_new w _⟩,h1⟩
theorem Cs.set (h:Cs w g cs) (i:Nat) (v:Value) (hv:v.oneCell'=true):Cs (w.setCell ⟨g,i,none⟩ v) g (cs.set i v):=by
 obtain⟨⟨t,h⟩,h1⟩:=h
 refine⟨⟨t,?_⟩,fun x hx=>?_⟩
 · rw [setCell_eq_setRow w g i _ t (0,0) _ h,setRow_heap w g _ _ t _ h]
   simp
 · rcases List.mem_or_eq_of_mem_set hx with hx | rfl
   · exact h1 x hx
   · exact hv
theorem Cs.ne {g':Nat} {cs':List Value} (h:Cs w g cs) (h':Cs w g' cs') (hl:cs.length≠cs'.length):g≠g':=fun e=>by
 obtain⟨⟨t,h⟩,_⟩:=h
 obtain⟨⟨t',h'⟩,_⟩:=h'
 rw [e,h']at h
 injection h with h
 injection h with h _ _
 exact hl (by rw [← List.size_toArray,← h,List.size_toArray])
theorem Cs.notMap {P:Program} {K:TypeId} {b:Nat} {f:Int→Option Value} (h:Cs w g cs) (hm:MpI P K w b f):g≠b:=fun e=>by
 obtain⟨⟨t,h⟩,_⟩:=h
 obtain⟨D,⟨es,clock,hh,_⟩,_⟩:=hm
 rw [e,hh]at h;cases h
theorem Cs.setCells (h:Cs w g cs) (o:Nat) (vs:List Value) (hl:o+vs.length≤cs.length) (h1:∀ v ∈ vs,v.oneCell'=true):Cs (w.setCells g o vs) g (cs.take o++vs++cs.drop (o+vs.length)):=by
 obtain⟨⟨t,h⟩,h2⟩:=h
 have:=Z1v vs h (by simpa using hl) h1
 refine⟨⟨t,by simpa using this⟩,fun v hv=>?_⟩
 rcases List.mem_append.1 hv with hv | hv
 · rcases List.mem_append.1 hv with hv | hv
   · exact h2 v (List.mem_of_mem_take hv)
   · exact h1 v hv
 · exact h2 v (List.mem_of_mem_drop hv)
end
structure Srt (T:TypeId) (n:Nat) (z:List Value):Prop where
 und:∃ d,Tryz.prog.underlying T=some d∧d.isRow=true
 size:(Tryz.prog.info? T).map (·.size)=some n
 zero:∀ w,(zeroValue T).run Tryz.prog w= .ok (.agg z.toArray) w
 len:z.length=n
 one:∀ v ∈ z,v.oneCell'=true
theorem Zgq {T n:Nat} {z:List Value} (hT:Srt T n z) {w:World} {g:Nat} {cs:List Value} (h:Cs w g cs) (hl:cs.length=n):(loadVar T ⟨g,0,none⟩).run Tryz.prog w= .ok (.agg cs.toArray) w:=by
 obtain⟨d,h1,h2⟩:=hT.und
 exact run_loadVar_mid w g 0 _ cs _ h.range h1 h2 (by rw [hT.size];simp [hl])
theorem Cs.setAll {w:World} {g:Nat} {cs:List Value} (h:Cs w g cs) (cs':List Value) (hl:cs'.length=cs.length) (h1:∀ v ∈ cs',v.oneCell'=true):Cs (w.setCells g 0 cs') g cs':=by
 have:=h.setCells 0 cs' (by omega) h1
 have e:cs.take 0++cs'++cs.drop (0+cs'.length)=cs':=by rw [Nat.zero_add,hl];simp
 rwa [e]at this
theorem Z3p {T n:Nat} {z:List Value} (hT:Srt T n z) {w:World} {g:Nat} {cs:List Value} (h:Cs w g cs) (hl:cs.length=n) (cs':List Value) (hl':cs'.length=n) (h1:∀ v ∈ cs',v.oneCell'=true):
 (storeVar T ⟨g,0,none⟩ (.agg cs'.toArray)).run Tryz.prog w= .ok () (w.setCells g 0 cs'):=
 run_storeVar_mid w g 0 _ cs'.toArray (by have:=h.there;simpa [hl,hl']using this) (by rw [hT.size];simp [hl']) (all_oneCell_toArray h1)
section
variable {ops : Array Oper} {rest : List Oper} {o : Oper} {a : Act} {w : World} {Q : Exit → Act → World → Prop}
theorem Z28 (T n:Nat) (z:List Value) (hT:Srt T n z) (hw:Region.wanted o (yielded ops a.tmps)=true) (ho:o.op= .alloc T)
 (h:∀ g w',w.heap.size≤g→g < w'.heap.size→Cs w' g z→Below w.heap.size w w'→wpList Tryz.prog ops Q rest (a.put o.dst (.pointer (some ⟨g,0,none⟩))) w'):wpList Tryz.prog ops Q (o::rest) a w:=by
 refine Z09 hw _ _ ?_ (h w.heap.size (w.alloc (.cells z.toArray T)) (Nat.le_refl _) (by simp) (Cs.made _ _ _ hT.one) ((Below.refl _ _).alloc (Nat.le_refl _) _))
 have :(Instr.alloc T true (.tuple #[])).run Tryz.prog w= .ok (.pointer (some ⟨w.heap.size,0,none⟩)) (w.alloc (.cells z.toArray T)):=by
  unfold Instr.alloc;rw [Sem.run_bind,hT.zero];rfl
 simp only [execOp,ho,Sem.run_bind,this];rfl
theorem Z2n (T:Nat) (hw:Region.wanted o (yielded ops a.tmps)=true) (x:Operand) (ho:o.op= .box T x) (cs:List Value) (hx:a.eval x= .agg cs.toArray) (h1:∀ v ∈ cs,v.oneCell'=true)
 (h:∀ g w',w.heap.size≤g→g < w'.heap.size→Cs w' g cs→Below w.heap.size w w'→wpList Tryz.prog ops Q rest (a.put o.dst (.pointer (some ⟨g,0,none⟩))) w'):wpList Tryz.prog ops Q (o::rest) a w:=by
 refine Z09 hw _ _ ?_ (h w.heap.size (w.alloc (.cells cs.toArray T)) (Nat.le_refl _) (by simp) (Cs.made _ _ _ h1) ((Below.refl _ _).alloc (Nat.le_refl _) _))
 have :(Instr.box T (.agg cs.toArray)).run Tryz.prog w= .ok (.pointer (some ⟨w.heap.size,0,none⟩)) (w.alloc (.cells cs.toArray T)):=by
  simp [Instr.box,newVar,Value.cells,go_sem]
 simp only [execOp,ho,hx,Sem.run_bind,this];rfl
theorem Z3i (T n:Nat) (z:List Value) (hT:Srt T n z) (hw:Region.wanted o (yielded ops a.tmps)=true) (x:Operand) (ho:o.op= .load T x) (g:Nat) (hx:a.eval x= .pointer (some ⟨g,0,none⟩)) (cs:List Value) (hR:Cs w g cs) (hl:cs.length=n)
 (h:wpList Tryz.prog ops Q rest (a.put o.dst (.agg cs.toArray)) w):wpList Tryz.prog ops Q (o::rest) a w:=by
 refine Z09 hw _ _ ?_ h
 simp [execOp,ho,hx,Instr.loadAt,Instr.sureAddr,Zgq hT hR hl]
theorem Z1q (T n:Nat) (z:List Value) (hT:Srt T n z) (hw:Region.wanted o (yielded ops a.tmps)=true) (x y:Operand) (ho:o.op= .store T x y) (g:Nat) (hx:a.eval x= .pointer (some ⟨g,0,none⟩)) (cs':List Value) (hy:a.eval y= .agg cs'.toArray) (hl':cs'.length=n) (h1:∀ v ∈ cs',v.oneCell'=true) (cs:List Value) (hR:Cs w g cs) (hl:cs.length=n)
 (h:∀ w',Cs w' g cs'→Stp (fun x=>x=g) w w'→wpList Tryz.prog ops Q rest (a.put o.dst undef) w'):wpList Tryz.prog ops Q (o::rest) a w:=by
 refine Z35 hw _ ?_ (h (w.setCells g 0 cs') (hR.setAll cs' (by omega) h1) (Z2a _ _ _ _))
 simp only [execOp,ho,hx,hy,Instr.storeAt,Instr.sureAddr,Sem.run_bind,Sem.run_pure,Result.andThen_ok]
 rw [Z3p hT hR hl cs' hl' h1];rfl
theorem Z65 (T:Nat) (hw:Region.wanted o (yielded ops a.tmps)=true) (ho:o.op= .makeMap T none)
 (h:∀ b w',w.heap.size≤b→MpI Tryz.prog 3 w' b (fun _=>none)→Below w.heap.size w w'→wpList Tryz.prog ops Q rest (a.put o.dst (.map (some b))) w'):wpList Tryz.prog ops Q (o::rest) a w:=by
 refine Z09 hw _ _ ?_ (h w.heap.size (w.alloc (.map #[] 0)) (Nat.le_refl _) (MpI.made w _ _) ((Below.refl _ _).alloc (Nat.le_refl _) _))
 have:(Instr.makeMap T none).run Tryz.prog w= .ok (.map (some w.heap.size)) (w.alloc (.map #[] 0)):=rfl
 simp [execOp,ho,this]
end
theorem Zc9:Tryz.prog.underlying 3=some (.int .i64):=by kernel_rfl
theorem MpI.later {P:Program} {K:TypeId} {w w':World} {b:Nat} {f:Int→Option Value} (h:MpI P K w b f) (k:Below w.heap.size w w'):MpI P K w' b f:=h.step (Stp.of_below k (fun _=>False)) id
theorem MpI.look2 {P:Program} {K E t:TypeId} {w:World} {b:Nat} {f:Int→Option Value} (h:MpI P K w b f) (hk:P.underlying K=some (.int .i64)) (ht:P.underlying t=some (.map K E)) {z:Value} (hz:(zeroValue E).run P w= .ok z w) {k:Int} (hw:(Lit.int .i64 k).wf=true):
 (Instr.lookup t (.map (some b)) (.int .i64 k) true).run P w= .ok (.tuple #[(f k).getD z, .bool (f k).isSome]) w:=by
 obtain⟨D,h1,hR⟩:=h
 obtain⟨v,ps,hr,h2⟩:=h1.look_ok (Maps.int_keyed hk) ht hz (zd:= .held z) (zp:= []) rfl (wfI hw hk)
 rw [hr,hR.has k]
 have e:DataW.held v=D.atKey (keyI k) (.held z):=by injection h2 with h2;injection h2
 cases ef:f k with
 | none=>rw [Maps.atKey_of_not_has (hR.none ef)]at e;injection e with e;rw [e];rfl
 | some u=>rw [hR.some ef]at e;injection e with e;rw [e];rfl
section
variable {ops : Array Oper} {rest : List Oper} {o : Oper} {a : Act} {w : World} {Q : Exit → Act → World → Prop}
theorem Z1h (T E:Nat) (hT:Tryz.prog.underlying T=some (.map 3 E)) (z:Value) (hz:∀ w,(zeroValue E).run Tryz.prog w= .ok z w) (hw:Region.wanted o (yielded ops a.tmps)=true) (m x:Operand) (ho:o.op= .lookup T m x true) (b:Nat) (f:Int→Option Value) (hm:a.eval m= .map (some b)) (hM:MpI Tryz.prog 3 w b f) (k:Int) (hx:a.eval x= .int .i64 k) (hk:(Lit.int .i64 k).wf=true)
 (h:wpList Tryz.prog ops Q rest (a.put o.dst (.tuple #[(f k).getD z, .bool (f k).isSome])) w):wpList Tryz.prog ops Q (o::rest) a w:=by
 refine Z09 hw _ _ ?_ h
 simp [execOp,ho,hm,hx,hM.look2 Zc9 hT (hz w) hk]
end
section
variable {ops : Array Oper} {o : Oper} {a : Act} {w : World} {S : World → Prop} {K : Act → World → Prop} {Q : Exit → Act → World → Prop} {E : Prop}
theorem Ze7 (T n:Nat) (z:List Value) (hT:Srt T n z) (hw:Region.wanted o (yielded ops a.tmps)=true) (x:Operand) (ho:o.op= .load T x) (g:Nat) (hx:a.eval x= .pointer (some ⟨g,0,none⟩)) (cs:List Value) (hl:cs.length=n) (hS:∀ w,S w→Cs w g cs):
 YieldsIf Tryz.prog ops S o (.agg cs.toArray) a:=by
 obtain⟨d,h1,h2⟩:=hT.und
 exact yieldsIf_load_mid hw T x ho g 0 hx cs _ (fun w h=>(hS w h).range) h1 h2 (by rw [hT.size];simp [hl])
theorem Z1l (T E:Nat) (hT:Tryz.prog.underlying T=some (.map 3 E)) (z:Value) (hz:∀ w,(zeroValue E).run Tryz.prog w= .ok z w) (hw:Region.wanted o (yielded ops a.tmps)=true) (m x:Operand) (ho:o.op= .lookup T m x false) (b:Nat) (f:Int→Option Value) (hm:a.eval m= .map (some b)) (k:Int) (hx:a.eval x= .int .i64 k) (hk:(Lit.int .i64 k).wf=true) (hS:∀ w,S w→MpI Tryz.prog 3 w b f):
 YieldsIf Tryz.prog ops S o ((f k).getD z) a:=by
 refine Or.inl ⟨hw,fun w hs=>?_⟩
 simp [execOp,ho,hm,hx,(hS w hs).look Zc9 hT (hz w) hk]
end
section
variable {fn : Func} {p u v : Tmp} {tmps : Array Value} {w : World} {g T n : Nat} {z cs : List Value} {x y : Value}
theorem Zc5 (hT:Srt T n z) (h:fn.results=#[.cell p T, .tmp u]) (hp:tmps.getD p undef= .pointer (some ⟨g,0,none⟩)) (hu:tmps.getD u undef=x) (hR:Cs w g cs) (hl:cs.length=n):(results fn tmps).run Tryz.prog w= .ok (.tuple #[.agg cs.toArray,x]) w:=by
 have hp':tmps[p]?.getD undef= .pointer (some ⟨g,0,none⟩):=by simpa using hp
 have hu':tmps[u]?.getD undef=x:=by simpa using hu
 simp [results,h,hp',hu',asAddr,Zgq hT hR hl]
end
section
variable {ops : Array Oper} {rest : List Oper} {o : Oper} {a : Act} {w : World} {Q : Exit → Act → World → Prop}
theorem Z0d (T m:Nat) (hT:∃ d,Tryz.prog.underlying T=some d∧d.isRow=true) (hs:(Tryz.prog.info? T).map (·.size)=some m) (hw:Region.wanted o (yielded ops a.tmps)=true) (x:Operand) (ho:o.op= .load T x) (g i:Nat) (hx:a.eval x= .pointer (some ⟨g,i,none⟩)) (cs:List Value) (hR:Cs w g cs) (part:List Value) (hp:part=(cs.drop i).take m) (hl:part.length=m)
 (h:wpList Tryz.prog ops Q rest (a.put o.dst (.agg part.toArray)) w):wpList Tryz.prog ops Q (o::rest) a w:=by
 refine Z09 hw _ _ ?_ h
 obtain⟨d,h1,h2⟩:=hT
 have hr:w.rangeAt g i part:=fun j v hv=>by
  subst hp
  have hj:=(List.getElem?_eq_some_iff.1 hv).1
  rw [hl]at hj
  rw [List.getElem?_take,if_pos hj,List.getElem?_drop]at hv
  exact hR.cell (i+j) v hv
 have:(loadVar T ⟨g,i,none⟩).run Tryz.prog w= .ok (.agg part.toArray) w:=run_loadVar_mid w g i _ part _ hr h1 h2 (by rw [hs];simp [hl])
 simp [execOp,ho,hx,Instr.loadAt,Instr.sureAddr,this]
end
section
variable {fn : Func} {p u v : Tmp} {tmps : Array Value} {w : World} {g T n : Nat} {z cs : List Value} {x y : Value}
theorem retC (hT:Srt T n z) (h:fn.results=#[.cell p T]) (hp:tmps.getD p undef= .pointer (some ⟨g,0,none⟩)) (hR:Cs w g cs) (hl:cs.length=n):(results fn tmps).run Tryz.prog w= .ok (.agg cs.toArray) w:=by
 have hp':tmps[p]?.getD undef= .pointer (some ⟨g,0,none⟩):=by simpa using hp
 simp [results,h,hp',asAddr,Zgq hT hR hl]
end
theorem u3:Tryz.prog.underlying 3=some (.int .i64):=by kernel_rfl
section
variable {ops : Array Oper} {rest : List Oper} {o : Oper} {a : Act} {w : World} {Q : Exit → Act → World → Prop}
theorem Z3r {t:TypeId} {b:Nat} {k:Int} {R:World→Prop} (hw:Region.wanted o (yielded ops a.tmps)=true) (x y:Operand) (ho:o.op=Op.call { callee:=Callee.builtin Builtin.delete,args:=#[x,y],argTypes:=#[t,3]})
 (hx:a.eval x= .map (some b)) (hy:a.eval y= .int .i64 k) (hd:∀ ty,∃ w',(Builtin.delete_ #[t,3] ty #[.map (some b), .int .i64 k]).run Tryz.prog w= .ok (.tuple #[]) w'∧R w')
 (h:∀ w',R w'→wpList Tryz.prog ops Q rest (a.put o.dst (.tuple #[])) w'):wpList Tryz.prog ops Q (o::rest) a w:=by
 obtain⟨w',hr,hR⟩:=hd o.type
 refine Z09 hw _ w' ?_ (h w' hR)
 simp [execOp,ho,resolve,invoke,builtin,hx,hy,hr,Result.andThen]
theorem Z51 {t:TypeId} {b:Nat} {v:Value} {R:World→Prop} (hw:Region.wanted o (yielded ops a.tmps)=true) (x:Operand) (ho:o.op=Op.range t x)
 (hx:a.eval x= .map (some b)) (hd:∃ w',(Instr.range t (.map (some b))).run Tryz.prog w= .ok v w'∧R w')
 (h:∀ w',R w'→wpList Tryz.prog ops Q rest (a.put o.dst v) w'):wpList Tryz.prog ops Q (o::rest) a w:=by
 obtain⟨w',hr,hR⟩:=hd
 refine Z09 hw _ w' ?_ (h w' hR)
 simp [execOp,ho,hx,hr,Result.andThen]
theorem Z67 {b r:Nat} {f:Int→Option Value} {left:Int→Bool} {cnt:Nat} (hw:Region.wanted o (yielded ops a.tmps)=true) (x:Operand) (ho:o.op=Op.next x false)
 (hx:a.eval x= .pointer (some ⟨r,0,none⟩)) (h:RgI Tryz.prog 3 w b r f left cnt)
 (h0:(∀ k,left k=false)→wpList Tryz.prog ops Q rest (a.put o.dst (.tuple #[.bool false])) w)
 (h1 :∀ k v w' cnt',(Lit.int .i64 k).wf=true→left k=true→f k=some v→RgI Tryz.prog 3 w' b r f (fun x=>left x&& !decide (x=k)) cnt'→cnt' < cnt→Stp (fun x=>x=r) w w'→w'.heap.size=w.heap.size→
   (Instr.entry (.pointer (some ⟨r,0,none⟩))).run Tryz.prog w'= .ok (.tuple #[.int .i64 k,v]) w'→wpList Tryz.prog ops Q rest (a.put o.dst (.tuple #[.bool true, .int .i64 k,v])) w'):wpList Tryz.prog ops Q (o::rest) a w:=by
 rcases h.next u3 o.type with⟨hl,hr⟩ | ⟨k,v,w',cnt',hk,hl,hf,hr,hR,hc,hg,hs,he⟩
 · refine Z09 hw _ w ?_ (h0 hl)
   simp [execOp,ho,hx,hr,Result.andThen]
 · refine Z09 hw _ w' ?_ (h1 k v w' cnt' hk hl hf hR hc (Stp.of_grown hg (by rintro x e;injection e with e;exact .inl e.symm)) hs he)
   simp [execOp,ho,hx,hr,Result.andThen]
end
theorem Z0a {w w':World} {b:Nat} (h:w.mapTurned w' b):Stp (fun x=>x=b) w w':=Stp.of_grown h.grown (by rintro x e;injection e with e;exact .inl e.symm)
theorem Z6h {w:World} {b:Nat} {f:Int→Option Value} {t E:TypeId} (h:MpI Tryz.prog 3 w b f) (ht:Tryz.prog.underlying t=some (.map 3 E)):
 ∃ w',(Instr.range t (.map (some b))).run Tryz.prog w= .ok (.pointer (some ⟨w.heap.size,0,none⟩)) w'∧∃ cnt,RgI Tryz.prog 3 w' b w.heap.size f (fun k=>(f k).isSome) cnt∧Stp (fun _=>False) w w'∧w'.heap.size=w.heap.size+1:=by
 obtain⟨w',cnt,h1,h2,h3,h4⟩:=h.range u3 ht
 exact⟨w',h1,cnt,h2,Stp.of_grown h3 (by rintro x e;cases e),h4⟩
structure ElT (T e:TypeId) (sz:Nat):Prop where
 und:Tryz.prog.underlying T=some (.slice e)
 inf:∃ z b,(Tryz.prog.info? e).map (fun i=>(i.zero,i.size,i.bytes))=some (some z,sz,b)∧z.cells.size=sz∧b≤128
 pos:0 < sz
def New (B:Nat) (v:Value):Prop:=∀ r,v.ownBlock=some r→B≤r
section
variable {ops : Array Oper} {rest : List Oper} {o : Oper} {a : Act} {w : World} {Q : Exit → Act → World → Prop} {T e : TypeId} {sz n m B : Nat} {xs : List Value} {v : Value}
theorem Zpe (h:w.ownsRow 0 e sz v n xs) (hN:New B v):w.ownsRow B e sz v n xs:=by
 rcases h.2 with⟨e1,e2⟩ | ⟨g,cap,cur,e1,_,e3⟩
 · exact⟨h.1, .inl ⟨e1,e2⟩⟩
 · exact⟨h.1, .inr ⟨g,cap,cur,e1,hN g (by rw [e1];rfl),e3⟩⟩
theorem Zfp (h:w.ownsRow B e sz v n xs):w.ownsRow 0 e sz v n xs:=by
 rcases h.2 with⟨e1,e2⟩ | ⟨g,cap,cur,e1,_,e3⟩
 · exact⟨h.1, .inl ⟨e1,e2⟩⟩
 · exact⟨h.1, .inr ⟨g,cap,cur,e1,Nat.zero_le _,e3⟩⟩
theorem Zfo {w':World} {F:Nat→Prop} (h:w.ownsRow B e sz v n xs) (k:Stp F w w') (hF:∀ r,v.ownBlock=some r→¬F r):w'.ownsRow B e sz v n xs:=by
 refine⟨h.1,?_⟩
 rcases h.2 with h2 | ⟨g',cap,cur,e2,e3,e4,e5⟩
 · exact .inl h2
 · exact .inr ⟨g',cap,cur,e2,e3,by rw [k.block g' (Array.getElem?_eq_some_iff.1 e4).1 (hF g' (by rw [e2];rfl))];exact e4,e5⟩
theorem Z25 {w':World} (h:w.ownsRow B e sz v n xs) (k:Below w.heap.size w w'):w'.ownsRow B e sz v n xs:=Zfo h (Stp.of_below k (fun _=>False)) (fun _ _=>id)
def Apd (w:World) (B:Nat) (e:TypeId) (sz:Nat) (v:Value) (n m:Nat) (xs:List Value) (v':Value) (w':World):Prop:=
 w'.ownsRow 0 e sz v' (n+m) xs∧New B v'∧(v'.ownBlock=v.ownBlock∨(v'.ownBlock=some w.heap.size∧w.heap.size < w'.heap.size))∧Stp (fun x=>v.ownBlock=some x) w w'∧(v'= .slice none 0 0↔v= .slice none 0 0∧m=0)
theorem Za4 (hE:ElT T e sz) (ty:TypeId) (h0:w.ownsRow 0 e sz v n xs) (hN:New B v) (xa:Option Addr) (c:Nat) (news:List Value) (hl:news.length=m * sz) (hnil:xa=none→m=0∧c=0) (hnews:∀ ad,xa=some ad→∀ j u,news[j]? =some u→w.cell? (ad.add j)=some u) (h1:∀ u ∈ news,u.oneCell'=true) (hbig:n+m≤1000000) (hB:B≤w.heap.size):
 ∃ v' w',(Builtin.append_ #[T,T] ty #[v, .slice xa m c]).run Tryz.prog w= .ok v' w'∧Apd w B e sz v n m (xs++news) v' w':=by
 obtain⟨z,b,hi',hz,hb⟩:=hE.inf
 obtain⟨i0,hi,hz0,hz1,hz2⟩:=info_parts hi'
 cases xa with
 | none=>
   obtain⟨rfl,rfl⟩:=hnil rfl
   obtain rfl:news= []:=List.eq_nil_of_length_eq_zero (by rw [hl,Nat.zero_mul])
   have hrun:=run_append_owned_none (P:=Tryz.prog) (w:=w) 0 T ty e i0 sz hE.und hi v n xs h0
   exact⟨v,w,hrun,by simpa using h0,hN, .inl rfl,Stp.refl _ _,by simp⟩
 | some ad=>
   obtain⟨v',w',hr,h2,h3,h4,h5⟩:=run_append_own_at (P:=Tryz.prog) w B T ty e i0 z sz b hE.und hi hz0 hz1 hz2 hz hE.pos v n xs (Zpe h0 hN) ad m c news hl (hnews ad rfl) h1 (by unfold maxLen;omega) (Nat.le_trans (Nat.mul_le_mul hbig hb) (by omega)) hB
   have hlt:=h2.lt
   refine⟨v',w',hr,Zfp h2,fun r hr=>(hlt r hr).1,?_,Stp.of_grown h3 (fun x e=> .inl e),h4⟩
   rcases h5 with e5 | e5
   · exact .inl e5
   · exact .inr ⟨e5,(hlt _ e5).2⟩
theorem Z2m (hE:ElT T e sz) (B:Nat) (hgd:o.guard=none) (s x:Operand) (ho:o.op= .call { callee:= .builtin .append,args:=#[s,x],argTypes:=#[T,T]}) (hs:a.eval s=v) (h0:w.ownsRow 0 e sz v n xs) (hN:New B v) (xa:Option Addr) (c:Nat) (news:List Value) (hx:a.eval x= .slice xa m c) (hl:news.length=m * sz) (hnil:xa=none→m=0∧c=0) (hnews:∀ ad,xa=some ad→∀ j u,news[j]? =some u→w.cell? (ad.add j)=some u) (h1:∀ u ∈ news,u.oneCell'=true) (hbig:n+m≤1000000) (hB:B≤w.heap.size)
 (h:∀ v' w',Apd w B e sz v n m (xs++news) v' w'→wpList Tryz.prog ops Q rest (a.put o.dst v') w'):wpList Tryz.prog ops Q (o::rest) a w:=by
 have hw:Region.wanted o (yielded ops a.tmps)=true:=by simp [Region.wanted,hgd]
 obtain⟨v',w',hr,hA⟩:=Za4 hE o.type h0 hN xa c news hl hnil hnews h1 hbig hB
 refine Z09 hw v' w' ?_ (h v' w' hA)
 simp only [execOp,ho,resolve,invoke,builtin,Sem.run_bind,Sem.run_pure,Result.andThen_ok,List.map_toArray,List.map_cons,List.map_nil,hs,hx,hr]
theorem Zbq {K:Act→World→Prop} {R:Prop} (hE:ElT T e sz) (B:Nat) (hgd:o.guard=none) (s x:Operand) (ho:o.op= .call { callee:= .builtin .append,args:=#[s,x],argTypes:=#[T,T]}) (hs:a.eval s=v) (h0:w.ownsRow 0 e sz v n xs) (hN:New B v) (xa:Option Addr) (c:Nat) (news:List Value) (hx:a.eval x= .slice xa m c) (hl:news.length=m * sz) (hnil:xa=none→m=0∧c=0) (hnews:∀ ad,xa=some ad→∀ j u,news[j]? =some u→w.cell? (ad.add j)=some u) (h1:∀ u ∈ news,u.oneCell'=true) (hbig:n+m≤1000000) (hB:B≤w.heap.size)
 (h:∀ v' w',Apd w B e sz v n m (xs++news) v' w'→K (a.put o.dst v') w'):if Region.wanted o (yielded ops a.tmps)=true then Oper.wp Tryz.prog o a w K Q else R:=by
 have hw:Region.wanted o (yielded ops a.tmps)=true:=by simp [Region.wanted,hgd]
 rw [if_pos hw]
 obtain⟨v',w',hr,hA⟩:=Za4 hE o.type h0 hN xa c news hl hnil hnews h1 hbig hB
 unfold Oper.wp execOp
 simp only [ho,resolve,invoke,builtin,Sem.run_bind,Sem.run_pure,Result.andThen_ok,List.map_toArray,List.map_cons,List.map_nil,hs,hx,hr]
 exact h v' w' hA
end
theorem elB:ElT 53 5 1:=⟨by kernel_rfl,⟨.int .u8 0,1,by kernel_rfl,rfl,by omega⟩,by omega⟩
theorem elI:ElT 54 3 1:=⟨by kernel_rfl,⟨.int .i64 0,8,by kernel_rfl,rfl,by omega⟩,by omega⟩
structure Sv where
 a:Option Addr
 n:Nat
 c:Nat
abbrev Sv.v (s:Sv):Value:= .slice s.a s.n s.c
def Sv.nil:Sv:=⟨none,0,0⟩
def InE (E:Nat→Prop) (s:Sv):Prop:=∀ ad:Addr,s.a=some ad→0 < s.n→E ad.block
theorem InE.nil (E:Nat→Prop):InE E Sv.nil:=fun ad h=>by cases h
theorem InE.mono {E E':Nat→Prop} {s:Sv} (h:InE E s) (k:∀ x,E x→E' x):InE E' s:=fun ad h1 h2=>k _ (h ad h1 h2)
abbrev BsS (w:World) (s:Sv) (l:List Int):Prop:=Bs w s.a s.n s.c l
structure InsS (w:World) (s:Sv) (l:List Int):Prop where
 i:Ins w s.a s.n s.c l
 nl:s.a=none→s.c=0
section
variable {w w' : World} {s : Sv} {l : List Int} {E F : Nat → Prop}
theorem BsS.step (h:BsS w s l) (k:Stp F w w') (he:InE E s) (hE:∀ x,E x→¬F x):BsS w' s l:=by
 refine⟨h.len,h.le,h.cap,h.nil,h.byte,fun hn=>?_⟩
 obtain⟨b,o,e,hc⟩:=h.cell hn
 exact⟨b,o,e,fun i hi=>k.cell (hc i hi) (hE b (he ⟨b,o,none⟩ e hn))⟩
theorem InsS.step (h:InsS w s l) (k:Stp F w w') (he:InE E s) (hE:∀ x,E x→¬F x):InsS w' s l:=
 ⟨h.i.step k (fun x hn e=>hE _ (he x e hn)),h.nl⟩
theorem InsS.later (h:InsS w s l) (k:Below w.heap.size w w'):InsS w' s l:=h.step (E:=fun _=>True) (Stp.of_below k (fun _=>False)) (fun _ _ _=>trivial) (fun _ _=>id)
theorem InsS.nil (w:World):InsS w Sv.nil []:=⟨Ins.nilSlice w,fun _=>rfl⟩
theorem Zf4 (w:World):BsS w Sv.nil []:=Bs.nilSlice w
theorem InsS.zero (h:InsS w s l) (e:s.a=none):s.n=0∧s.c=0∧l= []:=by
 have h1:=h.nl e
 have h2:=h.i.le
 have h3:=h.i.len
 exact⟨by omega,h1,List.eq_nil_of_length_eq_zero (by omega)⟩
theorem InsS.cells (h:InsS w s l):∀ ad,s.a=some ad→∀ j u,(l.map (Value.int .i64))[j]? =some u→w.cell? (ad.add j)=some u:=fun ad e j u hu=>by
 have hj:=(List.getElem?_eq_some_iff.1 hu).1
 rw [List.length_map]at hj
 have hl:=h.i.len
 obtain⟨b,o,e1,hc⟩:=h.i.cell (by omega)
 rw [e]at e1;injection e1 with e1;subst e1
 rw [Addr.add_lit,hc j (by omega),← hu,List.getElem?_map,List.getElem?_eq_getElem hj,List.getD_eq_getElem?_getD,List.getElem?_eq_getElem hj];rfl
theorem BsS.cells (h:BsS w s l):∀ ad,s.a=some ad→∀ j u,(l.map (Value.int .u8))[j]? =some u→w.cell? (ad.add j)=some u:=fun ad e j u hu=>by
 have h':Bs w (some ad) s.n s.c l:=by rw [← e];exact h
 exact h'.cells j u hu
theorem BsS.zero (h:BsS w s l) (e:s.a=none):s.n=0∧s.c=0∧l= []:=by
 have h1:=h.nil e
 have h2:=h.le
 have h3:=h.len
 exact⟨by omega,h1,List.eq_nil_of_length_eq_zero (by omega)⟩
end
theorem Zs5 {w:World} {v:Value} {l:List Int} {B:Nat} (h:w.ownsRow 0 5 1 v l.length (l.map (Value.int .u8))) (hl:∀ x ∈ l,0≤x∧x≤255) (hN:New B v):∃ s:Sv,v=s.v∧s.n=l.length∧BsS w s l∧InE (fun x=>B≤x∧x < w.heap.size) s:=by
 obtain⟨a,c,rfl,hb⟩:=Z9j h hl
 exact⟨⟨a,l.length,c⟩,rfl,rfl,hb,fun ad e hn=>⟨hN _ (by show Value.ownBlock (.slice a _ _)=_;rw [show a=some ad from e];rfl),(h.lt _ (by show Value.ownBlock (.slice a _ _)=_;rw [show a=some ad from e];rfl)).2⟩⟩
theorem Zjs {w:World} {v:Value} {l:List Int} {B:Nat} (h:w.ownsRow 0 3 1 v l.length (l.map (Value.int .i64))) (hl:∀ x ∈ l,wfi x) (hN:New B v):∃ s:Sv,v=s.v∧s.n=l.length∧InsS w s l∧InE (fun x=>B≤x∧x < w.heap.size) s:=by
 have hlt:=h.lt
 rcases h.2 with⟨rfl,h2⟩ | ⟨g,cap,cur,rfl,_,hg,hle,hm,hs,ht⟩
 · obtain rfl:l= []:=List.eq_nil_of_length_eq_zero h2
   exact⟨Sv.nil,rfl,rfl,InsS.nil w,InE.nil _⟩
 · refine⟨⟨some ⟨g,0,none⟩,l.length,cap⟩,rfl,rfl,⟨⟨rfl,hle,hm,hl,fun hn=>⟨g,0,rfl,fun i hi=>?_⟩⟩,(fun e=>by cases e)⟩,fun ad e hn=>⟨?_,?_⟩⟩
   · rw [Nat.zero_add,cell_of_row w g i _ _ (0,0) hg]
     have h1:(cur.toList.take (l.length * 1))[i]? =(l.map (Value.int .i64))[i]?:=by rw [ht]
     have hi':i < l.length:=hi
     rw [Nat.mul_one,List.getElem?_take,if_pos hi',List.getElem?_map,List.getElem?_eq_getElem hi']at h1
     rw [List.getD_eq_getElem?_getD,List.getElem?_eq_getElem hi']
     simpa using h1
   · injection e with e;subst e;exact hN g rfl
   · injection e with e;subst e;exact(hlt g rfl).2
def Pt.cs (p:Pt) (d n:Sv):List Value:= [.int .i64 p.id, .int .i64 p.at', .int .i64 p.off, .slice d.a d.n d.c, .int .i64 p.kind, .slice n.a n.n n.c, .int .i64 p.own, .int .i64 p.child, .bool p.wr]
theorem Pt.cs_one (p:Pt) (d n:Sv):∀ v ∈ p.cs d n,v.oneCell'=true:=by
 intro v hv;unfold Pt.cs at hv;simp at hv
 rcases hv with h | h | h | h | h | h | h | h | h<;>subst h<;>rfl
structure Pt.wfp (p:Pt):Prop where
 i:wfi p.id
 s:wfi p.at'
 o:wfi p.off
 k:wfi p.kind
 w:wfi p.own
 c:wfi p.child
structure PtM (w:World) (E:Nat→Prop) (p:Pt) (d n:Sv):Prop where
 bs:BsS w d p.data
 is:InsS w n p.needs
 ed:InE E d
 en:InE E n
section
variable {w w' : World} {E E' F : Nat → Prop} {p : Pt} {d n : Sv}
theorem PtM.step (h:PtM w E p d n) (k:Stp F w w') (hE:∀ x,E x→¬F x):PtM w' E p d n:=⟨h.bs.step k h.ed hE,h.is.step k h.en hE,h.ed,h.en⟩
theorem PtM.later (h:PtM w E p d n) (k:Below w.heap.size w w'):PtM w' E p d n:=h.step (Stp.of_below k (fun _=>False)) (fun _ _=>id)
theorem PtM.mono (h:PtM w E p d n) (k:∀ x,E x→E' x):PtM w E' p d n:=⟨h.bs,h.is,h.ed.mono k,h.en.mono k⟩
theorem PtM.zero (w:World) (E:Nat→Prop):PtM w E Pt.zero Sv.nil Sv.nil:=⟨Zf4 w,InsS.nil w,InE.nil _,InE.nil _⟩
theorem PtM.other {p':Pt} (h:PtM w E p d n) (h1:p'.data=p.data) (h2:p'.needs=p.needs):PtM w E p' d n:=⟨by rw [h1];exact h.bs,by rw [h2];exact h.is,h.ed,h.en⟩
end
theorem srtP:Srt 56 9 (Pt.zero.cs Sv.nil Sv.nil):=
 ⟨⟨_,Tryz.underlying56,rfl⟩,by kernel_rfl,fun w=>(zero_of_info (v:= .agg (Pt.zero.cs Sv.nil Sv.nil).toArray) (n:=9) (by kernel_rfl)).1 w,rfl,Pt.cs_one _ _ _⟩
theorem elP:ElT 120 56 9:=⟨by kernel_rfl,⟨.agg (Pt.zero.cs Sv.nil Sv.nil).toArray,104,by kernel_rfl,rfl,by omega⟩,by omega⟩
section
variable {ops : Array Oper} {rest : List Oper} {o : Oper} {a : Act} {w : World} {Q : Exit → Act → World → Prop}
theorem Z0g (hw:Region.wanted o (yielded ops a.tmps)=true) (y:Operand) (ho:o.op= .box 56 y) (p:Pt) (d n:Sv) (hx:a.eval y= .agg (p.cs d n).toArray)
 (h:∀ g w',w.heap.size≤g→g < w'.heap.size→Cs w' g (p.cs d n)→Below w.heap.size w w'→wpList Tryz.prog ops Q rest (a.put o.dst (.pointer (some ⟨g,0,none⟩))) w'):wpList Tryz.prog ops Q (o::rest) a w:=
 Z2n 56 hw y ho (p.cs d n) hx (p.cs_one d n) h
theorem Z0t (hw:Region.wanted o (yielded ops a.tmps)=true) (ho:o.op= .alloc 56)
 (h:∀ g w',w.heap.size≤g→g < w'.heap.size→Cs w' g (Pt.zero.cs Sv.nil Sv.nil)→Below w.heap.size w w'→wpList Tryz.prog ops Q rest (a.put o.dst (.pointer (some ⟨g,0,none⟩))) w'):wpList Tryz.prog ops Q (o::rest) a w:=
 Z28 56 9 _ srtP hw ho h
theorem Z0c (hw:Region.wanted o (yielded ops a.tmps)=true) (y:Operand) (ho:o.op= .load 56 y) (g:Nat) (hx:a.eval y= .pointer (some ⟨g,0,none⟩)) (p:Pt) (d n:Sv) (hR:Cs w g (p.cs d n))
 (h:wpList Tryz.prog ops Q rest (a.put o.dst (.agg (p.cs d n).toArray)) w):wpList Tryz.prog ops Q (o::rest) a w:=
 Z3i 56 9 _ srtP hw y ho g hx (p.cs d n) hR rfl h
theorem Z0i (hw:Region.wanted o (yielded ops a.tmps)=true) (y z:Operand) (ho:o.op= .store 56 y z) (g:Nat) (hx:a.eval y= .pointer (some ⟨g,0,none⟩)) (p:Pt) (d n:Sv) (hy:a.eval z= .agg (p.cs d n).toArray) (cs:List Value) (hR:Cs w g cs) (hl:cs.length=9)
 (h:∀ w',Cs w' g (p.cs d n)→Stp (fun x=>x=g) w w'→wpList Tryz.prog ops Q rest (a.put o.dst undef) w'):wpList Tryz.prog ops Q (o::rest) a w:=
 Z1q 56 9 _ srtP hw y z ho g hx (p.cs d n) hy rfl (p.cs_one d n) cs hR hl h
end
section
variable {ops : Array Oper} {o : Oper} {a : Act} {w : World} {S : World → Prop}
theorem Z0w (hw:Region.wanted o (yielded ops a.tmps)=true) (y:Operand) (ho:o.op= .load 56 y) (g:Nat) (hx:a.eval y= .pointer (some ⟨g,0,none⟩)) (p:Pt) (d n:Sv) (hS:∀ w,S w→Cs w g (p.cs d n)):
 YieldsIf Tryz.prog ops S o (.agg (p.cs d n).toArray) a:=
 Ze7 56 9 _ srtP hw y ho g hx (p.cs d n) rfl hS
end
section
variable {w : World} {g : Nat} {p : Pt} {d n : Sv}
theorem Pt.cells (h:Cs w g (p.cs d n)):w.cell? ⟨g,0,none⟩=some (.int .i64 p.id)∧w.cell? ⟨g,1,none⟩=some (.int .i64 p.at')∧w.cell? ⟨g,2,none⟩=some (.int .i64 p.off)∧w.cell? ⟨g,3,none⟩=some (.slice d.a d.n d.c)∧w.cell? ⟨g,4,none⟩=some (.int .i64 p.kind)∧w.cell? ⟨g,5,none⟩=some (.slice n.a n.n n.c)∧w.cell? ⟨g,6,none⟩=some (.int .i64 p.own)∧w.cell? ⟨g,7,none⟩=some (.int .i64 p.child)∧w.cell? ⟨g,8,none⟩=some (.bool p.wr):=
 ⟨h.cell 0 _ rfl,h.cell 1 _ rfl,h.cell 2 _ rfl,h.cell 3 _ rfl,h.cell 4 _ rfl,h.cell 5 _ rfl,h.cell 6 _ rfl,h.cell 7 _ rfl,h.cell 8 _ rfl⟩
end
set_option maxRecDepth 100000 in
set_option maxHeartbeats 2000000 in
theorem Z4o (p:Pt) (d n:Sv) (w:World) (hp:p.wfp) (hd:d.n=p.data.length) (hb:p.data.length≤1000000):
 Calls Tryz.prog 142 #[.agg (p.cs d n).toArray] w fun e w'=>e= .returned (.bool (fit p))∧Below w.heap.size w w':=by
 have h1:=Z7i hp.s
 have h2:=Z7i hp.o
 have h3:=Z7i hp.k
 have hl:(0:Int)≤(d.n:Int):=by omega
 have hl2:(d.n:Int)≤1000000:=by omega
 have hE:Hid (fit p=(decide (0≤p.at')&&decide (p.at' < 2048)&&decide (0≤p.kind)&&decide (p.kind≤6)&&decide (0 < (d.n:Int))&&decide (0≤p.off)&&decide (p.off≤(if p.kind=0 then 64 else 54) - (d.n:Int)))):=by
  show _=_;unfold fit;rw [hd]
 clear hd hb hp
 have tok:True:=trivial
 go_enter Tryz.func142,Tryz.ntmps142
 go_wp2_with (first
  | (clear tok;refine Z0g (by rfl) _ (by rfl) p d n (by rfl) ?_;intro g1 w1 a1 a2 r1 b1;obtain⟨c0,c1,c2,c3,c4,c5,c6,c7,c8⟩:=Pt.cells r1;clear c0 c5 c6 c7 c8))
 all_goals
  go_returns
  refine⟨Z0s ?_,b1⟩
  rw [hE.out]
  clear hE c1 c2 c3 c4 r1 b1
  simp_all
  try omega
set_option maxRecDepth 100000 in
set_option maxHeartbeats 2000000 in
theorem Zaf {w:World} {s:Sv} {l:List Int} (h:BsS w s l) (hl:l.length≤100000):
 Calls Tryz.prog 194 #[.slice s.a s.n s.c] w fun e w'=>∃ s':Sv,e= .returned (.slice s'.a s'.n s'.c)∧BsS w' s' l∧InE (fun x=>w.heap.size≤x∧x < w'.heap.size) s'∧Below w.heap.size w w':=by
 have hlen:l.length=s.n:=h.len
 have hcs:=h.cells
 have qnB:∀ (w:World) (a:Option Addr) (n c n' c':Nat),(binOp .eql 53 (.slice a n c) (.slice none n' c')).run Tryz.prog w= .ok (.bool a.isNone) w:=fun w a n c n' c'=>Lib.run_eql_slice_nil w _ _ a n c n' c' elB.und
 have qnI:∀ (w:World) (a:Option Addr) (n c n' c':Nat),(binOp .eql 54 (.slice a n c) (.slice none n' c')).run Tryz.prog w= .ok (.bool a.isNone) w:=fun w a n c n' c'=>Lib.run_eql_slice_nil w _ _ a n c n' c' elI.und
 have hz:=h.zero
 have hby:=h.byte
 obtain⟨sa,sn,sc⟩:=s
 simp only at hlen hcs hz ⊢
 subst hlen
 have fin:∀ v' w',Apd (w.alloc (.cells #[] 5)) w.heap.size 5 1 (.slice (some ⟨w.heap.size,0,none⟩) 0 0) 0 l.length ([]++l.map (Value.int .u8)) v' w'→
  ∃ s':Sv,Ending.returned v'= .returned (.slice s'.a s'.n s'.c)∧BsS w' s' l∧InE (fun x=>w.heap.size≤x∧x < w'.heap.size) s'∧Below w.heap.size w w':=by
  intro v' w' hA
  obtain⟨h1,h2,h3,h4,h5⟩:=hA
  rw [Nat.zero_add,List.nil_append]at h1
  obtain⟨s',rfl,e2,e3,e4⟩:=Zs5 h1 hby h2
  refine⟨s',rfl,e3,e4,?_⟩
  have k0:Stp (fun _=>False) w (w.alloc (.cells #[] 5)):=Stp.of_alloc _ _ _
  exact(k0.next h4 (F':=fun x=>some w.heap.size=some x) (fun x e=> .inr (by injection e with e;omega))).below (Nat.le_refl _) (fun x e=>e.elim)
 have q0:(w.alloc (.cells #[] 5)).ownsRow 0 5 1 (.slice (some ⟨w.heap.size,0,none⟩) 0 0) 0 []:=World.ownsRow_made w #[] 0 (Nat.zero_le _) (Nat.zero_le _) rfl
 have hN:New w.heap.size (.slice (some ⟨w.heap.size,0,none⟩) 0 0):=fun r e=>by
  have:w.heap.size=r:=by simpa [Value.ownBlock]using e
  omega
 have hcs':∀ ad,sa=some ad→∀ j u,(l.map (Value.int .u8))[j]? =some u→(w.alloc (.cells #[] 5)).cell? (ad.add j)=some u:=fun ad e j u hu=>by
  have:=hcs ad e j u hu
  rw [((Below.refl _ w).alloc (Nat.le_refl _) (.cells #[] 5)).cell (World.block_lt_of_cell? w _ this)];exact this
 cases sa with
 | none=>
   obtain⟨z1,z2,rfl⟩:=hz rfl
   subst z2
   simp only [List.length_nil]at fin hcs' ⊢
   go_enter Tryz.func194,Tryz.ntmps194
   go_wp2
   go_returns
   exact⟨Sv.nil,rfl,Zf4 w,InE.nil _,Below.refl _ _⟩
 | some ad=>
   go_enter Tryz.func194,Tryz.ntmps194
   go_wp2_with (first
    | (refine Z2m elB w.heap.size rfl _ _ (by rfl) (by rfl) q0 hN (some ad) sc (l.map (Value.int .u8)) (by rfl) (by simp) (fun e=>by cases e) hcs' (fun u hu=>by obtain⟨x,_,rfl⟩:=List.mem_map.1 hu;rfl) (by omega) (by simp) ?_;intro v' w' hA;obtain⟨s',e1,e2⟩:=fin v' w' hA;injection e1 with e1;subst e1))
   go_returns
   exact⟨s',rfl,e2⟩
set_option maxRecDepth 100000 in
set_option maxHeartbeats 2000000 in
theorem Zag {w:World} {s:Sv} {l:List Int} (h:InsS w s l) (hl:l.length≤100000):
 Calls Tryz.prog 95 #[.slice s.a s.n s.c] w fun e w'=>∃ s':Sv,e= .returned (.slice s'.a s'.n s'.c)∧InsS w' s' l∧InE (fun x=>w.heap.size≤x∧x < w'.heap.size) s'∧Below w.heap.size w w':=by
 have hlen:l.length=s.n:=h.i.len
 have hcs:=h.cells
 have qnB:∀ (w:World) (a:Option Addr) (n c n' c':Nat),(binOp .eql 53 (.slice a n c) (.slice none n' c')).run Tryz.prog w= .ok (.bool a.isNone) w:=fun w a n c n' c'=>Lib.run_eql_slice_nil w _ _ a n c n' c' elB.und
 have qnI:∀ (w:World) (a:Option Addr) (n c n' c':Nat),(binOp .eql 54 (.slice a n c) (.slice none n' c')).run Tryz.prog w= .ok (.bool a.isNone) w:=fun w a n c n' c'=>Lib.run_eql_slice_nil w _ _ a n c n' c' elI.und
 have hz:=h.zero
 have hby:=h.i.wf
 obtain⟨sa,sn,sc⟩:=s
 simp only at hlen hcs hz ⊢
 subst hlen
 have fin:∀ v' w',Apd (w.alloc (.cells #[] 3)) w.heap.size 3 1 (.slice (some ⟨w.heap.size,0,none⟩) 0 0) 0 l.length ([]++l.map (Value.int .i64)) v' w'→
  ∃ s':Sv,Ending.returned v'= .returned (.slice s'.a s'.n s'.c)∧InsS w' s' l∧InE (fun x=>w.heap.size≤x∧x < w'.heap.size) s'∧Below w.heap.size w w':=by
  intro v' w' hA
  obtain⟨h1,h2,h3,h4,h5⟩:=hA
  rw [Nat.zero_add,List.nil_append]at h1
  obtain⟨s',rfl,e2,e3,e4⟩:=Zjs h1 hby h2
  refine⟨s',rfl,e3,e4,?_⟩
  have k0:Stp (fun _=>False) w (w.alloc (.cells #[] 3)):=Stp.of_alloc _ _ _
  exact(k0.next h4 (F':=fun x=>some w.heap.size=some x) (fun x e=> .inr (by injection e with e;omega))).below (Nat.le_refl _) (fun x e=>e.elim)
 have q0:(w.alloc (.cells #[] 3)).ownsRow 0 3 1 (.slice (some ⟨w.heap.size,0,none⟩) 0 0) 0 []:=World.ownsRow_made w #[] 0 (Nat.zero_le _) (Nat.zero_le _) rfl
 have hN:New w.heap.size (.slice (some ⟨w.heap.size,0,none⟩) 0 0):=fun r e=>by
  have:w.heap.size=r:=by simpa [Value.ownBlock]using e
  omega
 have hcs':∀ ad,sa=some ad→∀ j u,(l.map (Value.int .i64))[j]? =some u→(w.alloc (.cells #[] 3)).cell? (ad.add j)=some u:=fun ad e j u hu=>by
  have:=hcs ad e j u hu
  rw [((Below.refl _ w).alloc (Nat.le_refl _) (.cells #[] 3)).cell (World.block_lt_of_cell? w _ this)];exact this
 cases sa with
 | none=>
   obtain⟨z1,z2,rfl⟩:=hz rfl
   subst z2
   simp only [List.length_nil]at fin hcs' ⊢
   go_enter Tryz.func95,Tryz.ntmps95
   go_wp2
   go_returns
   exact⟨Sv.nil,rfl,InsS.nil w,InE.nil _,Below.refl _ _⟩
 | some ad=>
   go_enter Tryz.func95,Tryz.ntmps95
   go_wp2_with (first
    | (refine Z2m elI w.heap.size rfl _ _ (by rfl) (by rfl) q0 hN (some ad) sc (l.map (Value.int .i64)) (by rfl) (by simp) (fun e=>by cases e) hcs' (fun u hu=>by obtain⟨x,_,rfl⟩:=List.mem_map.1 hu;rfl) (by omega) (by simp) ?_;intro v' w' hA;obtain⟨s',e1,e2⟩:=fin v' w' hA;injection e1 with e1;subst e1))
   go_returns
   exact⟨s',rfl,e2⟩
end Go.Proofs.YtogdffonjhghcaaGreatDoor
