/-
  Texts of my own, joined: no statement is proved here.
-/
import Derived.Shelf.SlIterI.Sorted
import Derived.Shelf.SlIterI.Keys
import Derived.Lib.Walk
import Derived.Deep.RegionLaw
import Derived.Test.YtogdffonjhghcaaGreatDoorRows
import Derived.OpenShut
import Derived.Test.YtogdffonjhghcaaGreatDoorJaz
set_option linter.unusedSimpArgs false
set_option linter.unusedVariables false
namespace Go.Proofs.YtogdffonjhghcaaGreatDoor
open Go.ChangeShapes Go.WideShapes Go.ChangeAt Go.RowKit Go.Shelf
def insU:List Int→Int→List Int
 | [],x=> [x]
 | a::t,x=>if a < x then a::insU t x else if a=x then a::t else x::a::t
def secs (l:List Pt):List Int:=(l.filter fun p=> !p.wr).foldl (fun out p=>insU out p.at') []
theorem Z8k (x y:Int):∀ l,y ∈ insU l x↔y=x∨y ∈ l
 | []=>by simp [insU]
 | a::t=>by
   unfold insU
   split
   · rw [List.mem_cons,Z8k x y t,List.mem_cons]
     constructor
     · rintro (h | h | h);exact .inr (.inl h);exact .inl h;exact .inr (.inr h)
     · rintro (h | h | h);exact .inr (.inl h);exact .inl h;exact .inr (.inr h)
   · split
     · rename_i e;subst e
       constructor
       · intro h;exact .inr h
       · rintro (h | h);rw [h];exact List.mem_cons_self;exact h
     · simp
theorem Zb7 (x:Int):∀ l:List Int,l.Pairwise (· < ·)→(insU l x).Pairwise (· < ·)
 | [],_=>by simp [insU]
 | a::t,h=>by
   rw [List.pairwise_cons]at h
   unfold insU
   split
   · rename_i e
     rw [List.pairwise_cons]
     refine⟨fun y hy=>?_,Zb7 x t h.2⟩
     rcases (Z8k x y t).1 hy with rfl | hy
     · exact e
     · exact h.1 y hy
   · split
     · rw [List.pairwise_cons];exact h
     · rw [List.pairwise_cons,List.pairwise_cons]
       refine⟨fun y hy=>?_,h⟩
       rcases List.mem_cons.1 hy with rfl | hy
       · omega
       · have:=h.1 y hy;omega
theorem Zcm (y:Int):∀ (L:List Pt) (o:List Int),y ∈ L.foldl (fun out p=>insU out p.at') o↔y ∈ o∨∃ p ∈ L,p.at'=y
 | [],o=>by simp
 | a::t,o=>by
   rw [List.foldl_cons,Zcm y t,Z8k]
   constructor
   · rintro ((h | h) | ⟨p,h1,h2⟩)
     · exact .inr ⟨a,by simp,h.symm⟩
     · exact .inl h
     · exact .inr ⟨p,by simp [h1],h2⟩
   · rintro (h | ⟨p,h1,h2⟩)
     · exact .inl (.inr h)
     · rcases List.mem_cons.1 h1 with rfl | h1
       · exact .inl (.inl h2.symm)
       · exact .inr ⟨p,h1,h2⟩
theorem Zb6:∀ (L:List Pt) (o:List Int),o.Pairwise (· < ·)→(L.foldl (fun out p=>insU out p.at') o).Pairwise (· < ·)
 | [],o,h=>h
 | a::t,o,h=>by rw [List.foldl_cons];exact Zb6 t _ (Zb7 _ _ h)
theorem Z6l {l:List Pt} {y:Int} :y ∈ secs l↔wts l y≠ []:=by
 unfold secs
 rw [Zcm]
 constructor
 · rintro (h | ⟨p,h1,h2⟩)
   · cases h
   · have:=List.mem_filter.1 h1
     intro e
     have hm:p.id ∈ wts l y:=Z2b.2 ⟨p,this.1,rfl,h2,by simpa using this.2⟩
     rw [e]at hm;cases hm
 · intro h
   obtain⟨x,hx⟩:=List.exists_mem_of_ne_nil _ h
   obtain⟨p,h1,h2,h3,h4⟩:=Z2b.1 hx
   exact .inr ⟨p,List.mem_filter.2 ⟨h1,by rw [h4];rfl⟩,h3⟩
theorem Zbm (l:List Pt):(secs l).Pairwise (· < ·):=Zb6 _ [] List.Pairwise.nil
theorem Z9o {l:List Int} (h:l.Pairwise (· < ·)):l.Nodup:=h.imp (fun h=>by omega)
theorem Zrc (m:Nat):AnyZI.SortsIn Tryz.prog sortedA_ren Fence.wide m:=
 ⟨fun blk off cap ss W hH hblk hsz=>callsIn_wide.2 (Any.slices_Sort_int lays189 blk off cap ss W hH hblk hsz),
  fun p cap W=>callsIn_wide.2 (Any.slices_Sort_int_none lays189 p cap W)⟩
theorem Zj4 {w:World} {b n:Nat} {D:DataW Value} {L:List Int} {fw:Int→Option Value} (h:w.ownsMap Tryz.prog 3 Z1t b n D) (hR:Z1u D fw) (hn:L.Nodup) (hm:∀ x,x ∈ L↔(fw x).isSome=true):L.Perm (intKeys D):=by
 obtain⟨es,hD,hpw,_⟩:=h.entries (Maps.int_keyed u3)
 obtain⟨es',hD',hko⟩:=h.keysOf
 obtain rfl:es=es':=by rw [hD]at hD';simpa using hD'
 subst hD
 exact perm_intKeys hpw (fun p hp=>by obtain⟨v,hv⟩:=hko p hp;obtain⟨x,_,hx,_⟩:=Maps.keyOf_i64 u3 hv;exact⟨x,hx⟩) hn (fun x=>by rw [hm x,← hR.has x];rfl)
theorem Zpp {L:List Int} (h:L.Pairwise (· < ·)):L.mergeSort (fun x y=>decide (x≤y))=L:=List.mergeSort_of_pairwise (h.imp (fun h=>by simp;omega))
abbrev Rise (l:List Pt):Prop:=l.Pairwise fun a b=>a.id < b.id
theorem Z7u (l:List Pt) (i:Int):has l i=(ids l).contains i:=by
 unfold has ids
 induction l with
 | nil=>rfl
 | cons a t ih=>
   rw [List.any_cons,List.map_cons,List.contains_cons,ih]
   congr 1
   rw [Bool.eq_iff_iff,beq_iff_eq,beq_iff_eq]
   exact eq_comm
theorem Zk7 {l:List Pt} (h:Rise l) (i:Int):Rise (setW l i):=by
 unfold Rise setW
 rw [List.pairwise_map]
 refine h.imp fun {a b} hab=>?_
 split<;>split<;>exact hab
theorem Zdp {l:List Pt} {i:Int} {q:Pt} :q ∈ setW l i↔∃ p ∈ l,q=if p.id=i then { p with wr:=true} else p:=by
 unfold setW
 rw [List.mem_map]
 constructor
 · rintro ⟨p,h1,h2⟩;exact⟨p,h1,h2.symm⟩
 · rintro ⟨p,h1,h2⟩;exact⟨p,h1,h2.symm⟩
theorem Z7k (l:List Pt) (s:Int):∀ (W late:List Pt) (Z:GZ),Rise Z.l→(∀ i,has Z.l i=has l i)→(∀ p ∈ W,p ∈ Z.l∧p.wr=false∧p.at'=s)→Rise W→(∀ q ∈ Z.l,q.wr=false→q.at'=s→q ∈ late∨q ∈ W)→Z.wrE (ids (rdS l late W))=0
 | [],late,Z,_,_,_,_,_=>by simp [rdS,ids,GZ.wrE]
 | p::r,late,Z,hs,hh,hW,hR,hl=>by
   unfold Rise at hR
   rw [List.pairwise_cons]at hR
   obtain⟨hp1,hp2,hp3⟩:=hW p (by simp)
   unfold rdS
   split
   · refine Z7k l s r (late++ [p]) Z hs hh (fun q hq=>hW q (by simp [hq])) hR.2 (fun q h1 h2 h3=>?_)
     rcases hl q h1 h2 h3 with h | h
     · exact .inl (by simp [h])
     · rcases List.mem_cons.1 h with rfl | h
       · exact .inl (by simp)
       · exact .inr h
   · rename_i hc
     have hc1:held l p=false∧late.any (fun q=>meet q p)=false:=by simpa using hc
     have hld:held Z.l p=false:=by
      rw [← hc1.1];unfold held
      congr 1
      funext i;exact hh i
     have hbd:bhd Z.l p=false:=by
      unfold bhd
      rw [List.any_eq_false]
      intro q hq h
      simp only [Bool.and_eq_true,decide_eq_true_eq,Bool.not_eq_true']at h
      obtain⟨⟨h1,h2⟩,h3⟩:=h
      have h4:q.at'=s:=by
       unfold meet at h3
       have:=(Bool.and_eq_true_iff.1 h3).1
       have:q.at'=p.at':=by simpa using this
       rw [this,hp3]
      rcases hl q hq h2 h4 with h5 | h5
      · have:=List.any_eq_false.1 hc1.2 q h5
        exact this h3
      · rcases List.mem_cons.1 h5 with rfl | h5
        · omega
        · have:=hR.1 q h5;omega
     have hwE:wE Z.l p.id=0:=by
      unfold wE;rw [Z29 hs hp1];simp [hp2,hld,hbd]
     show Z.wrE (p.id::ids (rdS l late r))=0
     unfold GZ.wrE
     rw [if_pos hwE]
     have e1:(Z.wr1 p.id).l=setW Z.l p.id:=by unfold GZ.wr1;rw [if_pos hwE]
     refine Z7k l s r late (Z.wr1 p.id) (by rw [e1];exact Zk7 hs _) (fun i=>by rw [e1,Z7u,Zpk,← Z7u];exact hh i) (fun q hq=>?_) hR.2 (fun q h1 h2 h3=>?_)
     · obtain⟨q1,q2,q3⟩:=hW q (by simp [hq])
       refine⟨?_,q2,q3⟩
       rw [e1]
       refine Zdp.2 ⟨q,q1,?_⟩
       have:=hR.1 q hq
       rw [if_neg (by omega)]
     · rw [e1]at h1
       obtain⟨q0,q1,q2⟩:=Zdp.1 h1
       by_cases e:q0.id=p.id
       · rw [if_pos e]at q2;rw [q2]at h2;cases h2
       · rw [if_neg e]at q2
         subst q2
         rcases hl q q1 h2 h3 with h | h
         · exact .inl h
         · rcases List.mem_cons.1 h with rfl | h
           · exact absurd rfl e
           · exact .inr h
theorem Z50 (Z:GZ) (hs:Rise Z.l) (s:Int):Z.wrE (rdy Z.l s)=0:=by
 unfold rdy
 refine Z7k Z.l s (wtP Z.l s) [] Z hs (fun _=>rfl) (fun p hp=>?_) (hs.filter _) (fun q h1 h2 h3=> .inr (Z0y.2 ⟨h1,h3,h2⟩))
 have:=Z0y.1 hp
 exact⟨this.1,this.2.2,this.2.1⟩
def cw (l:List Pt):Nat:=(l.filter (·.wr)).length
end Go.Proofs.YtogdffonjhghcaaGreatDoor
