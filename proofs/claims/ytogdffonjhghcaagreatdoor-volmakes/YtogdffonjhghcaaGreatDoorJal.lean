/-
  Texts of my own, joined: no statement is proved here.
-/
import Derived.Great.BuildSlice
import Derived.Deep.RegionLaw
import Derived.Test.YtogdffonjhghcaaGreatDoorRows
import Derived.OpenShut
import Derived.Test.YtogdffonjhghcaaGreatDoorJak
set_option linter.unusedSimpArgs false
set_option linter.unusedVariables false
namespace Go.Proofs.YtogdffonjhghcaaGreatDoor
open Go.ChangeShapes Go.WideShapes Go.ChangeAt Go.RowKit
theorem Zc2 (b:Blk) (u:World):(Instr.buildSlice 22 1 #[(0, .agg b.cs.toArray)]).run Tryz.prog u= .ok (.slice (some ⟨u.heap.size,0,none⟩) 1 1) (u.alloc (.cells b.cs.toArray 64)):=by
 obtain⟨ie,hie,hz,hs,hb⟩:=info_parts Z47
 refine run_buildSlice u _ _ 1 _ b.cs.toArray ie (.agg Blk.zero.cs.toArray) u41 hie hz (by rw [hs];omega) (by rw [hs];omega) ?_
 rw [hs]
 have:=Great.fill_whole (s:=64) (by omega) [.agg b.cs.toArray] ((Array.range (1 * 64)).map ((Value.agg Blk.zero.cs.toArray).cells[· % (Value.agg Blk.zero.cs.toArray).cells.size]!)) (by intro v hv;simp at hv;subst hv;simp [Value.cells,b.cs_len]) (by simp)
 simpa [Value.cells]using this
theorem Ziq (b:Blk):List.foldl (fun(cs:Array Value) (x:Value×Nat)=>cs.setIfInBounds x.snd x.fst) #[Value.int IntKind.u8 0,Value.int IntKind.u8 0,Value.int IntKind.u8 0,Value.int IntKind.u8 0,Value.int IntKind.u8 0,Value.int IntKind.u8 0,Value.int IntKind.u8 0,Value.int IntKind.u8 0,Value.int IntKind.u8 0,Value.int IntKind.u8 0,Value.int IntKind.u8 0,Value.int IntKind.u8 0,Value.int IntKind.u8 0,Value.int IntKind.u8 0,Value.int IntKind.u8 0,Value.int IntKind.u8 0,Value.int IntKind.u8 0,Value.int IntKind.u8 0,Value.int IntKind.u8 0,Value.int IntKind.u8 0,Value.int IntKind.u8 0,Value.int IntKind.u8 0,Value.int IntKind.u8 0,Value.int IntKind.u8 0,Value.int IntKind.u8 0,Value.int IntKind.u8 0,Value.int IntKind.u8 0,Value.int IntKind.u8 0,Value.int IntKind.u8 0,Value.int IntKind.u8 0,Value.int IntKind.u8 0,Value.int IntKind.u8 0,Value.int IntKind.u8 0,Value.int IntKind.u8 0,Value.int IntKind.u8 0,Value.int IntKind.u8 0,Value.int IntKind.u8 0,Value.int IntKind.u8 0,Value.int IntKind.u8 0,Value.int IntKind.u8 0,Value.int IntKind.u8 0,Value.int IntKind.u8 0,Value.int IntKind.u8 0,Value.int IntKind.u8 0,Value.int IntKind.u8 0,Value.int IntKind.u8 0,Value.int IntKind.u8 0,Value.int IntKind.u8 0,Value.int IntKind.u8 0,Value.int IntKind.u8 0,Value.int IntKind.u8 0,Value.int IntKind.u8 0,Value.int IntKind.u8 0,Value.int IntKind.u8 0,Value.int IntKind.u8 0,Value.int IntKind.u8 0,Value.int IntKind.u8 0,Value.int IntKind.u8 0,Value.int IntKind.u8 0,Value.int IntKind.u8 0,Value.int IntKind.u8 0,Value.int IntKind.u8 0,Value.int IntKind.u8 0,Value.int IntKind.u8 0] b.cs.zipIdx=b.cs.toArray:=by
 obtain⟨r,hr,hsz,hk⟩:=Great.fill_dense (s:=64) (by omega) [.agg b.cs.toArray] 0 #[Value.int IntKind.u8 0,Value.int IntKind.u8 0,Value.int IntKind.u8 0,Value.int IntKind.u8 0,Value.int IntKind.u8 0,Value.int IntKind.u8 0,Value.int IntKind.u8 0,Value.int IntKind.u8 0,Value.int IntKind.u8 0,Value.int IntKind.u8 0,Value.int IntKind.u8 0,Value.int IntKind.u8 0,Value.int IntKind.u8 0,Value.int IntKind.u8 0,Value.int IntKind.u8 0,Value.int IntKind.u8 0,Value.int IntKind.u8 0,Value.int IntKind.u8 0,Value.int IntKind.u8 0,Value.int IntKind.u8 0,Value.int IntKind.u8 0,Value.int IntKind.u8 0,Value.int IntKind.u8 0,Value.int IntKind.u8 0,Value.int IntKind.u8 0,Value.int IntKind.u8 0,Value.int IntKind.u8 0,Value.int IntKind.u8 0,Value.int IntKind.u8 0,Value.int IntKind.u8 0,Value.int IntKind.u8 0,Value.int IntKind.u8 0,Value.int IntKind.u8 0,Value.int IntKind.u8 0,Value.int IntKind.u8 0,Value.int IntKind.u8 0,Value.int IntKind.u8 0,Value.int IntKind.u8 0,Value.int IntKind.u8 0,Value.int IntKind.u8 0,Value.int IntKind.u8 0,Value.int IntKind.u8 0,Value.int IntKind.u8 0,Value.int IntKind.u8 0,Value.int IntKind.u8 0,Value.int IntKind.u8 0,Value.int IntKind.u8 0,Value.int IntKind.u8 0,Value.int IntKind.u8 0,Value.int IntKind.u8 0,Value.int IntKind.u8 0,Value.int IntKind.u8 0,Value.int IntKind.u8 0,Value.int IntKind.u8 0,Value.int IntKind.u8 0,Value.int IntKind.u8 0,Value.int IntKind.u8 0,Value.int IntKind.u8 0,Value.int IntKind.u8 0,Value.int IntKind.u8 0,Value.int IntKind.u8 0,Value.int IntKind.u8 0,Value.int IntKind.u8 0,Value.int IntKind.u8 0] (by intro v hv;simp at hv;subst hv;simp [Value.cells,b.cs_len]) (by simp)
 have:=Great.fill_whole (s:=64) (by omega) [.agg b.cs.toArray] #[Value.int IntKind.u8 0,Value.int IntKind.u8 0,Value.int IntKind.u8 0,Value.int IntKind.u8 0,Value.int IntKind.u8 0,Value.int IntKind.u8 0,Value.int IntKind.u8 0,Value.int IntKind.u8 0,Value.int IntKind.u8 0,Value.int IntKind.u8 0,Value.int IntKind.u8 0,Value.int IntKind.u8 0,Value.int IntKind.u8 0,Value.int IntKind.u8 0,Value.int IntKind.u8 0,Value.int IntKind.u8 0,Value.int IntKind.u8 0,Value.int IntKind.u8 0,Value.int IntKind.u8 0,Value.int IntKind.u8 0,Value.int IntKind.u8 0,Value.int IntKind.u8 0,Value.int IntKind.u8 0,Value.int IntKind.u8 0,Value.int IntKind.u8 0,Value.int IntKind.u8 0,Value.int IntKind.u8 0,Value.int IntKind.u8 0,Value.int IntKind.u8 0,Value.int IntKind.u8 0,Value.int IntKind.u8 0,Value.int IntKind.u8 0,Value.int IntKind.u8 0,Value.int IntKind.u8 0,Value.int IntKind.u8 0,Value.int IntKind.u8 0,Value.int IntKind.u8 0,Value.int IntKind.u8 0,Value.int IntKind.u8 0,Value.int IntKind.u8 0,Value.int IntKind.u8 0,Value.int IntKind.u8 0,Value.int IntKind.u8 0,Value.int IntKind.u8 0,Value.int IntKind.u8 0,Value.int IntKind.u8 0,Value.int IntKind.u8 0,Value.int IntKind.u8 0,Value.int IntKind.u8 0,Value.int IntKind.u8 0,Value.int IntKind.u8 0,Value.int IntKind.u8 0,Value.int IntKind.u8 0,Value.int IntKind.u8 0,Value.int IntKind.u8 0,Value.int IntKind.u8 0,Value.int IntKind.u8 0,Value.int IntKind.u8 0,Value.int IntKind.u8 0,Value.int IntKind.u8 0,Value.int IntKind.u8 0,Value.int IntKind.u8 0,Value.int IntKind.u8 0,Value.int IntKind.u8 0] (by intro v hv;simp at hv;subst hv;simp [Value.cells,b.cs_len]) (by simp)
 simp only [List.zipIdx_cons,List.zipIdx_nil,List.map_cons,List.map_nil,Instr.fill,Value.cells]at this
 simpa [b.cs_len]using this
theorem Dk.row {F:Nat→Prop} {w:World} {g m1 m2:Nat} {sp:Value} {S:DS} {f:Int→Option Value} (h:Dk w g sp m1 m2 S f F) (hm:MpI Tryz.prog 3 w m2 f) (k:Int):
 ∃ a c,(f k).getD (.slice none 0 0)= .slice a (S.wt k).length c∧w.ownsRow 0 64 64 (.slice a (S.wt k).length c) (S.wt k).length (flat (S.wt k))∧(Value.slice a (S.wt k).length c).ownBlock=(f k).bind Value.ownBlock∧
   ∀ r,(f k).bind Value.ownBlock=some r→F r∧r≠g∧r≠m1∧r≠m2:=by
 by_cases e:S.wt k= []
 · rw [h.w0 k e,e];exact⟨none,0,rfl,World.ownsRow_nil w 0 _ 64,rfl,fun r hr=>by cases hr⟩
 · obtain⟨r,c,e1,hF,hr,ho⟩:=h.w1 k e
   rw [e1]
   refine⟨_,c,rfl,ho,rfl,fun r' hr'=>?_⟩
   obtain rfl:r=r':=by simpa [Value.ownBlock]using hr'
   exact⟨hF,hr,Z3o ho h.st,Z3o ho hm⟩
def DS.wrote (S:DS) (i:Int) (b:Blk):DS:= { S with wt:=fun k=>if k=i then S.wt i++ [b]else S.wt k}
theorem Dk.written {F:Nat→Prop} {w w':World} {g m1 m2:Nat} {sp:Value} {S:DS} {f:Int→Option Value} (h:Dk w g sp m1 m2 S f F) (hm:MpI Tryz.prog 3 w m2 f) {i:Int} (hi:S.inn i) (b:Blk) {gg cap:Nat}
 (k:Stp (fun x=>x=m2∨(f i).bind Value.ownBlock=some x) w w') (ho:w'.ownsRow 0 64 64 (.slice (some ⟨gg,0,none⟩) ((S.wt i).length+1) cap) ((S.wt i).length+1) (flat (S.wt i)++b.cs))
 (hat:(f i).bind Value.ownBlock=some gg∨w.heap.size≤gg) (hlt:gg < w'.heap.size):
 Dk w' g sp m1 m2 (S.wrote i b) (upd f i (some (.slice (some ⟨gg,0,none⟩) ((S.wt i).length+1) cap))) (fun x=>F x∨x=gg):=by
 obtain⟨_,_,_,_,_,hrow⟩:=h.row hm i
 have hg:¬(g=m2∨(f i).bind Value.ownBlock=some g):=fun e=>by rcases e with e | e;exact hm.notCell h.c0 e;exact(hrow g e).2.1 rfl
 have hm1:¬(m1=m2∨(f i).bind Value.ownBlock=some m1):=fun e=>by rcases e with e | e;exact h.ne e;exact(hrow m1 e).2.2.1 rfl
 have hgg:gg≠g:=fun e=>by rcases hat with e1 | e1;exact(hrow gg e1).2.1 e;have:=h.lt g h.fg;omega
 refine ⟨k.cell h.c0 hg,k.cell h.c1 hg,k.cell h.c2 hg,k.cell h.c3 hg,k.cell h.c4 hg,by rw [k.frozen (p:=⟨g,4,none⟩) (h.lt g h.fg) hg];exact h.z4,h.st.step k hm1,
  ⟨h.ok.n1,h.ok.n2,h.ok.st,fun j hj=>by have:j≠i:=fun e=>hj (e▸hi);simp only [DS.wrote,if_neg this];exact h.ok.wt j hj⟩, .inl h.fg, .inl h.f1, .inl h.f2,h.ne,
  fun x hx=>by rcases hx with hx | hx;exact Nat.lt_of_lt_of_le (h.lt x hx) k.size;rw [hx];exact hlt,fun j hj=>?_,fun j hj=>?_,fun j j' r e1 e2=>?_⟩
 · by_cases e:j=i
   · simp [DS.wrote,e]at hj
   · simp only [DS.wrote,if_neg e]at hj;unfold upd;rw [if_neg e];exact h.w0 j hj
 · by_cases e:j=i
   · subst e
     have e3:(S.wrote j b).wt j=S.wt j++ [b]:=by simp [DS.wrote]
     rw [e3]
     refine⟨gg,cap,by simp [upd], .inr rfl,hgg,?_⟩
     rw [Zb5];simpa using ho
   · have e3:(S.wrote i b).wt j=S.wt j:=by simp only [DS.wrote,if_neg e]
     rw [e3]at hj ⊢
     obtain⟨r,c,e1,hF,hr,ho1⟩:=h.w1 j hj
     refine⟨r,c,by unfold upd;rw [if_neg e];exact e1, .inl hF,hr,Z2u ho1 k (fun e2=>?_)⟩
     rcases e2 with e2 | e2
     · exact Z3o ho1 hm e2
     · exact e (h.apart j i r (by rw [e1];rfl) e2)
 · have far:∀ j,j≠i→(f j).bind Value.ownBlock=some gg→False:=fun j hj e=>by
    obtain⟨_,_,_,_,_,hrow2⟩:=h.row hm j
    rcases hat with e3 | e3
    · exact hj (h.apart j i gg e e3)
    · have:=h.lt gg (hrow2 gg e).1;omega
   unfold upd at e1 e2
   by_cases n1:j=i
   · by_cases n2:j'=i
     · rw [n1,n2]
     · rw [if_pos n1]at e1;rw [if_neg n2]at e2
       obtain rfl:gg=r:=by simpa [Value.ownBlock]using e1
       exact(far j' n2 e2).elim
   · by_cases n2:j'=i
     · rw [if_neg n1]at e1;rw [if_pos n2]at e2
       obtain rfl:gg=r:=by simpa [Value.ownBlock]using e2
       exact(far j n1 e1).elim
     · rw [if_neg n1]at e1;rw [if_neg n2]at e2;exact h.apart j j' r e1 e2
def DS.count (S:DS):DS:= { S with wr:=wrap64 (S.wr+1)}
theorem Dk.counted {F:Nat→Prop} {w:World} {g m1 m2:Nat} {sp:Value} {S:DS} {f:Int→Option Value} (h:Dk w g sp m1 m2 S f F) (hm:MpI Tryz.prog 3 w m2 f):
 Dk (w.setCell ⟨g,4,none⟩ (.int .i64 (wrap64 (S.wr+1)))) g sp m1 m2 S.count f F:=by
 have k:Stp (fun x=>x=g) w (w.setCell ⟨g,4,none⟩ (.int .i64 (wrap64 (S.wr+1)))):=(Stp.refl (fun x=>x=g) w).setCell (p:=⟨g,4,none⟩) (.inl rfl) _
 refine ⟨by rw [World.cell?_setCell_other _ _ _ _ (by simp)];exact h.c0,by rw [World.cell?_setCell_other _ _ _ _ (by simp)];exact h.c1,by rw [World.cell?_setCell_other _ _ _ _ (by simp)];exact h.c2,by rw [World.cell?_setCell_other _ _ _ _ (by simp)];exact h.c3,
  World.cell?_setCell_same _ _ _ h.c4,by simpa using h.z4,h.st.step k (fun e=>h.st.notCell h.c0 e.symm),⟨h.ok.n1,h.ok.n2,h.ok.st,h.ok.wt⟩,h.fg,h.f1,h.f2,h.ne,fun x hx=>Nat.lt_of_lt_of_le (h.lt x hx) k.size,h.w0,fun j hj=>?_,h.apart⟩
 obtain⟨r,c,e,hF,hr,ho⟩:=h.w1 j hj
 exact⟨r,c,e,hF,hr,Z2u ho k hr⟩
structure DD (w:World) (g:Nat) (sp:Value) (S:DS) (p:Option PS) (F G:Nat→Prop):Prop where
 d:Disk w g sp S F
 s:Sup w sp p G
 fg:∀ x,F x→¬G x
 gl:∀ x,G x→x < w.heap.size
theorem DD.step {w w':World} {g:Nat} {sp:Value} {S:DS} {p:Option PS} {F G B:Nat→Prop} (h:DD w g sp S p F G) (k:Stp B w w') (h1:∀ x,F x→¬B x) (h2:∀ x,G x→¬B x):DD w' g sp S p F G:=
 ⟨h.d.step k h1,h.s.step k h2,h.fg,fun x hx=>Nat.lt_of_lt_of_le (h.gl x hx) k.size⟩
def DS.write (S:DS) (p:Option PS) (i:Int) (b:Blk):DS:=if Z0b S p i=0 then(S.wrote i b).count else S
set_option maxRecDepth 100000 in
set_option maxHeartbeats 2000000 in
theorem Z6q {w:World} {g:Nat} {sp:Value} {S:DS} {p:Option PS} {F G:Nat→Prop} (h:DD w g sp S p F G) (ok:oOk p) (i:Int) (b:Blk) (hn:(S.wt i).length < 100000):
 Calls Tryz.prog 308 #[.pointer (some ⟨g,0,none⟩), .int .i64 i, .agg b.cs.toArray] w fun e w'=>e= .returned (.int .i64 (Z0b S p i))∧∃ F',DD w' g sp (S.write p i b) (useP S p i) F' G∧Stp (fun x=>F x∨G x) w w'∧Grew F F' w w':=by
 obtain⟨⟨m1,m2,f,hd,hm⟩,hs,hFG,hGl⟩:=h
 have s0:Stp (fun _=>False) w (w.alloc (.cells b.cs.toArray 64)):=Stp.of_alloc _ _ _
 have hu:=Z1f (hd.step s0 (fun _ _=>id)) (hs.step s0 (fun _ _=>id)) ok i
 have hlt:=hd.lt g hd.fg
 by_cases he:Z0b S p i=0
 · have hi:S.inn i:=Decidable.byContradiction fun hn=>by unfold Z0b at he;rw [if_neg hn]at he;cases he
   have hwf:(Lit.int .i64 i).wf=true:=by have:=hd.ok.n2;unfold DS.inn at hi;simp [Lit.wf,IntKind.min,IntKind.max,IntKind.bits,IntKind.signed];omega
   have eW:S.write p i b=(S.wrote i b).count:=if_pos he
   rw [eW,he];rw [he]at hu
   go_enter Tryz.func308,Tryz.ntmps308
   go_wp2_with (go_at_call 324;refine hu.mono ?_;rintro e w1 ⟨rfl,hk1,hs1⟩)
   have hk2:Stp G w w1:=(s0.mono (fun x hx=>hx.elim)).trans hk1
   have hd1:=hd.step hk2 hFG
   have hm1:=hm.step hk2 (hFG m2 hd.f2)
   obtain⟨a,c,eV,hown,hob,hrow⟩:=hd1.row hm1 i
   have hlk:∀ u,Stp (fun _=>False) w1 u→(Instr.lookup 160 (.map (some m2)) (.int .i64 i) false).run Tryz.prog u= .ok (.slice a (S.wt i).length c) u:=fun u k=>by
    have:=(hm1.step k id).look (t:=160) u3 u64 (Ze8 u) hwf;rw [eV]at this;exact this
   have hl1:=hlk w1.drew (Stp.refl _ _).drew
   have hl2:=hlk (w1.alloc (.cells b.cs.toArray 64)).drew (Stp.of_alloc _ _ _).drew
   have hb36:=Ziq b
   obtain⟨ie,hie,hz,hsz,hby⟩:=info_parts Z47
   have hsw:=hk2.size
   have hgB:¬((f i).bind Value.ownBlock=some g∨g=m2):=fun e=>by rcases e with e | e;exact(hrow g e).2.1 rfl;exact hm1.notCell hd1.c0 e
   have hwB:¬((f i).bind Value.ownBlock=some w.heap.size∨w.heap.size=m2):=fun e=>by
    rcases e with e | e
    · have:=hd.lt _ (hrow _ e).1;omega
    · have:=hd.lt m2 hd.f2;omega
   have hrg:w1.rangeAt w.heap.size 0 b.cs:=hk1.range (Z0v w _ _) (fun e=>by have:=hGl _ e;omega)
   have hS:∀ u,Stp (fun x=>(f i).bind Value.ownBlock=some x∨x=m2) w1 u→(u.cell? ⟨g,3,none⟩=some (.map (some m2))∧u.rangeAt w.heap.size 0 b.cs):=fun u k=>⟨k.cell hd1.c3 hgB,k.range hrg hwB⟩
   have hkA:Stp (fun x=>(f i).bind Value.ownBlock=some x∨x=m2) w1 (w1.alloc (.cells b.cs.toArray 64)).drew:=(Stp.of_alloc _ _ _).drew
   have hkB:∀ w3,(w1.alloc (.cells b.cs.toArray 64)).drew.grownBy w3 (Value.slice a (S.wt i).length c).ownBlock→Stp (fun x=>(f i).bind Value.ownBlock=some x∨x=m2) w1 w3:=fun w3 hg=>hkA.trans (Stp.of_grown hg (fun x hx=> .inl (.inl (by rw [← hob];exact hx))))
   have hkC:∀ w3 w4,Stp (fun x=>(f i).bind Value.ownBlock=some x∨x=m2) w1 w3→w3.mapTurned w4 m2→Stp (fun x=>(f i).bind Value.ownBlock=some x∨x=m2) w1 w4:=fun w3 w4 k t=>k.next (Z0a t) (fun x hx=> .inl (.inr hx))
   have hfew:∀ k,(f k).isSome→0≤k∧k < 2048:=fun k hk=>by
    have:S.inn k:=Decidable.byContradiction fun hn=>by rw [hd.w0 k (hd.ok.wt k hn)]at hk;cases hk
    unfold DS.inn at this;have:=hd.ok.n2;omega
   have hst:∀ w3 gg cap,(w1.alloc (.cells b.cs.toArray 64)).drew.grownBy w3 (Value.slice a (S.wt i).length c).ownBlock→∃ w4,(Instr.mapUpdate 160 (.map (some m2)) (.int .i64 i) (.slice (some ⟨gg,0,none⟩) ((S.wt i).length+1) cap)).run Tryz.prog w3= .ok () w4∧MpI Tryz.prog 3 w4 m2 (upd f i (some (.slice (some ⟨gg,0,none⟩) ((S.wt i).length+1) cap)))∧w3.mapTurned w4 m2:=fun w3 gg cap hg=>by
    have hm3:MpI Tryz.prog 3 w3 m2 f:=(hm1.step (Stp.of_alloc _ _ (fun _=>False)) id).step (F:=fun x=>(Value.slice a (S.wt i).length c).ownBlock=some x) ((Stp.refl _ _).drew.trans (Stp.of_grown hg (fun x hx=> .inl hx))) (fun e=>by rw [hob]at e;exact(hrow m2 e).2.2.2 rfl)
    exact hm3.store u3 u64 hfew hwf _
   have hN:∀ j u,b.cs[j]? =some u→(w1.alloc (.cells b.cs.toArray 64)).drew.cell? ((⟨w1.heap.size,0,none⟩:Addr).add j)=some u:=fun j u hu=>World.news_of_block (w:=(w1.alloc (.cells b.cs.toArray 64)).drew) (cs:=b.cs.toArray) (t:=64) (fr:=(0,0)) (heap_alloc_new w1 _) j u (by simpa using hu)
   have hL:b.cs.length=1 * 64:=by rw [b.cs_len]
   have h63:(S.wt i).length+1≤maxLen:=by unfold maxLen;omega
   have h47:((S.wt i).length+1) * 64≤140737488355328:=by omega
   have fin:∀ gg cap w3 w4,w3.ownsRow 0 64 64 (.slice (some ⟨gg,0,none⟩) ((S.wt i).length+1) cap) ((S.wt i).length+1) (flat (S.wt i)++b.cs)→((Value.slice a (S.wt i).length c).ownBlock=some gg∨gg=w1.heap.size+1)→gg < w3.heap.size→Stp (fun x=>(f i).bind Value.ownBlock=some x∨x=m2) w1 w3→w3.mapTurned w4 m2→MpI Tryz.prog 3 w4 m2 (upd f i (some (.slice (some ⟨gg,0,none⟩) ((S.wt i).length+1) cap)))→
    (w4.cell? ⟨g,4,none⟩=some (.int .i64 S.wr)∧w4.frozen? ⟨g,4,none⟩=false)∧∃ F',DD (w4.setCell ⟨g,4,none⟩ (.int .i64 (wrap64 (S.wr+1)))) g sp (S.wrote i b).count (useP S p i) F' G∧Stp (fun x=>F x∨G x) w (w4.setCell ⟨g,4,none⟩ (.int .i64 (wrap64 (S.wr+1))))∧Grew F F' w (w4.setCell ⟨g,4,none⟩ (.int .i64 (wrap64 (S.wr+1)))):=fun gg cap w3 w4 ho hat hl k3 t4 m4=>by
    rw [hob]at hat
    have k4:=hkC w3 w4 k3 t4
    have hl4:gg < w4.heap.size:=Nat.lt_of_lt_of_le hl (Z0a t4).size
    have hgm:gg≠m2:=fun e=>by
     rcases hat with e1 | e1
     · exact(hrow gg e1).2.2.2 e
     · have:=hd1.lt m2 hd1.f2;omega
    have hat':(f i).bind Value.ownBlock=some gg∨w1.heap.size≤gg:=hat.imp id (fun e=>by omega)
    have D4:=hd1.written hm1 hi b (k4.mono (fun x hx=> .inl hx.symm)) (Z2u ho (Z0a t4) hgm) hat' hl4
    have k5:Stp (fun x=>F x∨G x) w w4:=((hk2.mono (F':=fun x=>F x∨G x) (fun x hx=> .inl (.inr hx))).next k4 (fun x hx=>by rcases hx with hx | hx;exact .inl (.inl (hrow x hx).1);subst hx;exact .inl (.inl hd.f2)))
    have k6:Stp (fun x=>x=g) w4 (w4.setCell ⟨g,4,none⟩ (.int .i64 (wrap64 (S.wr+1)))):=(Stp.refl (fun x=>x=g) w4).setCell (p:=⟨g,4,none⟩) (.inl rfl) _
    have gG:∀ x,F x∨x=gg→¬G x:=fun x hx=>by
     rcases hx with hx | hx
     · exact hFG x hx
     · subst hx
       rcases hat with e1 | e1
       · exact hFG _ (hrow _ e1).1
       · intro e;have:=hGl _ e;omega
    refine⟨⟨D4.c4,D4.z4⟩,fun x=>F x∨x=gg,⟨⟨m1,m2,_,D4.counted m4,m4.step k6 (fun e=>m4.notCell D4.c0 e.symm)⟩,?_,gG,fun x hx=>Nat.lt_of_lt_of_le (hGl x hx) (k5.next k6 (fun x hx=> .inl (.inl (hx▸hd.fg)))).size⟩,k5.next k6 (fun x hx=> .inl (.inl (hx▸hd.fg))),fun x hx=>?_⟩
    · refine(hs1.step k4 (fun x hx e=>?_)).step k6 (fun x hx e=>hFG g hd.fg (e▸hx))
      rcases e with e | e
      · exact hFG x (hrow x e).1 hx
      · exact hFG m2 hd.f2 (e▸hx)
    · rcases hx with hx | hx
      · exact .inl hx
      · subst hx
        rcases hat with e1 | e1
        · exact .inl (hrow _ e1).1
        · refine .inr ⟨by omega,Nat.lt_of_lt_of_le hl4 k6.size⟩
   clear hlk
   have u36':=u36
   have s36:=Z4b b
   clear eW he hu
   go_region_held3 (fun u=>u.cell? ⟨g,3,none⟩=some (.map (some m2))∧u.rangeAt w.heap.size 0 b.cs)
    (first | exact hS _ (Stp.refl _ _).drew | exact hS _ hkA | exact hS _ (hkB _ hg3) | exact hS _ (hkC _ _ (hkB _ hg3) ht4))
    ((refine step_append_lies _ (by rfl) _ _ _ (by rfl) 0 64 ie _ 64 64 u41 hie hz hsz hby (by rfl) (by omega) (.slice a (S.wt i).length c) (S.wt i).length (flat (S.wt i)) (by rfl) ((hown.alloc _).drew) ⟨w1.heap.size,0,none⟩ 1 1 b.cs (by rfl) hL hN b.cs_one (by omega) h63 h47 (Nat.zero_le _) (w1.heap.size+1) (by simp) ?_;intro gg cap w3 ho3 hg3 hat3 hlt3;obtain⟨w4,hr4,hm4,ht4⟩:=hst w3 gg cap hg3))
   all_goals
    obtain⟨⟨q1,q2⟩,q3⟩:=fin gg cap w3 w4 ho3 hat3 hlt3 (hkB _ hg3) ht4 hm4
    clear fin hst hkA hkB hkC hS hN hob hrow hown
    go_wp2
    go_returns
    exact⟨rfl,q3⟩
 · have eW:S.write p i b=S:=if_neg he
   rw [eW]
   go_enter Tryz.func308,Tryz.ntmps308
   go_wp2_with (go_at_call 324;refine hu.mono ?_;rintro e w1 ⟨rfl,hk1,hs1⟩)
   go_returns
   have hk2:Stp G w w1:=(s0.mono (fun x hx=>hx.elim)).trans hk1
   exact⟨rfl,F,⟨⟨m1,m2,f,hd.step hk2 hFG,hm.step hk2 (hFG m2 hd.f2)⟩,hs1,hFG,fun x hx=>Nat.lt_of_lt_of_le (hGl x hx) hk2.size⟩,hk2.mono (fun x hx=> .inl (.inr hx)),Grew.refl _ _ _⟩
theorem Z85 {F:Nat→Prop} {w:World} {g m1 m2:Nat} {sp:Value} {S:DS} {f:Int→Option Value} (h:Dk w g sp m1 m2 S f F) (hm:MpI Tryz.prog 3 w m2 f) (i:Int) (hi:S.inn i) (b:Blk):
 Calls Tryz.prog 101 #[.pointer (some ⟨g,0,none⟩), .int .i64 i, .agg b.cs.toArray] w fun e w'=>e= .returned (.tuple #[])∧Dk w' g sp m1 m2 (S.settle i b) (upd f i none) F∧MpI Tryz.prog 3 w' m2 (upd f i none)∧Stp (fun x=>x=m1∨x=m2) w w':=by
 have hwf:(Lit.int .i64 i).wf=true:=by have:=h.ok.n2;unfold DS.inn at hi;simp [Lit.wf,IntKind.min,IntKind.max,IntKind.bits,IntKind.signed];omega
 exact Z86 h i hi b (fun u f=>MpI Tryz.prog 3 u m2 f) (fun _=>False) hm (fun _ _ h=>h) id (fun u u' f B h k hB _=>h.step k hB) (fun u f ty h=>h.drop u3 u64 hwf ty)
def DS.force (S:DS) (p:Option PS) (i:Int) (b:Blk):DS:=if Z0b S p i=0 then(S.settle i b).count else S
set_option maxRecDepth 100000 in
set_option maxHeartbeats 2000000 in
theorem Z73 {w:World} {g:Nat} {sp:Value} {S:DS} {p:Option PS} {F G:Nat→Prop} (h:DD w g sp S p F G) (ok:oOk p) (i:Int) (b:Blk):
 Calls Tryz.prog 307 #[.pointer (some ⟨g,0,none⟩), .int .i64 i, .agg b.cs.toArray] w fun e w'=>e= .returned (.int .i64 (Z0b S p i))∧DD w' g sp (S.force p i b) (useP S p i) F G∧Stp (fun x=>F x∨G x) w w':=by
 obtain⟨⟨m1,m2,f,hd,hm⟩,hs,hFG,hGl⟩:=h
 have s0:Stp (fun _=>False) w (w.alloc (.cells b.cs.toArray 64)):=Stp.of_alloc _ _ _
 have hu:=Z1f (hd.step s0 (fun _ _=>id)) (hs.step s0 (fun _ _=>id)) ok i
 have hlt:=hd.lt g hd.fg
 by_cases he:Z0b S p i=0
 · have hi:S.inn i:=Decidable.byContradiction fun hn=>by unfold Z0b at he;rw [if_neg hn]at he;cases he
   have eW:S.force p i b=(S.settle i b).count:=if_pos he
   rw [eW,he];rw [he]at hu
   go_enter Tryz.func307,Tryz.ntmps307
   go_wp2_with (first
    | (go_at_call 324;refine hu.mono ?_;rintro e w1 ⟨rfl,hk1,hs1⟩
       have hrg:w1.rangeAt w.heap.size 0 b.cs:=hk1.range (Z0v w _ _) (fun e=>by have:=hGl _ e;omega)
       have hk2:Stp G w w1:=(s0.mono (fun x hx=>hx.elim)).trans hk1
       have hd1:=hd.step hk2 hFG
       have hm1:=hm.step hk2 (hFG m2 hd.f2))
    | (refine Z2o (by rfl) _ (by rfl) _ _ (by rfl) b hrg ?_)
    | (go_at_call 101;refine(Z85 hd1 hm1 i hi b).mono ?_;rintro e w2 ⟨rfl,hd2,hm2,hk3⟩;have q1:=hd2.c4;have q2:=hd2.z4;unfold DS.settle at q1))
   go_returns
   have k6:Stp (fun x=>x=g) w2 (w2.setCell ⟨g,4,none⟩ (.int .i64 (wrap64 (S.wr+1)))):=(Stp.refl (fun x=>x=g) w2).setCell (p:=⟨g,4,none⟩) (.inl rfl) _
   have k7:Stp F w1 w2:=hk3.mono (fun x hx=>by rcases hx with hx | hx;exact .inl (hx▸hd.f1);exact .inl (hx▸hd.f2))
   have k8:Stp F w1 (w2.setCell ⟨g,4,none⟩ (.int .i64 (wrap64 (S.wr+1)))):=k7.next k6 (fun x hx=> .inl (hx▸hd.fg))
   refine⟨rfl,⟨⟨m1,m2,_,hd2.counted hm2,hm2.step k6 (fun e=>hm2.notCell hd2.c0 e.symm)⟩,hs1.step k8 (fun x hx e=>hFG x e hx),hFG,fun x hx=>Nat.lt_of_lt_of_le (hGl x hx) (Nat.le_trans hk2.size k8.size)⟩,(hk2.mono (F':=fun x=>F x∨G x) (fun x hx=> .inl (.inr hx))).next k8 (fun x hx=> .inl (.inl hx))⟩
 · have eW:S.force p i b=S:=if_neg he
   rw [eW]
   go_enter Tryz.func307,Tryz.ntmps307
   go_wp2_with (go_at_call 324;refine hu.mono ?_;rintro e w1 ⟨rfl,hk1,hs1⟩)
   go_returns
   have hk2:Stp G w w1:=(s0.mono (fun x hx=>hx.elim)).trans hk1
   exact⟨rfl,⟨⟨m1,m2,f,hd.step hk2 hFG,hm.step hk2 (hFG m2 hd.f2)⟩,hs1,hFG,fun x hx=>Nat.lt_of_lt_of_le (hGl x hx) hk2.size⟩,hk2.mono (fun x hx=> .inl (.inr hx))⟩
section
variable {ops : Array Oper} {rest : List Oper} {o : Oper} {a : Act} {w : World} {Q : Exit → Act → World → Prop}
theorem Zl5 {b r:Nat} {f:Int→Option Value} {left:Int→Bool} {cnt:Nat} (hw:Region.wanted o (yielded ops a.tmps)=true) (x:Operand) (ho:o.op=Op.next x false)
 (hx:a.eval x= .pointer (some ⟨r,0,none⟩)) (h:RgI Tryz.prog 3 w b r f left cnt) (hsh:∀ k v,f k=some v→∃ a n c,v= .slice a n c)
 (h0:(∀ k,left k=false)→wpList Tryz.prog ops Q rest (a.put o.dst (.tuple #[.bool false])) w)
 (h1 :∀ k va vn vc w' cnt',(Lit.int .i64 k).wf=true→left k=true→f k=some (.slice va vn vc)→RgI Tryz.prog 3 w' b r f (fun x=>left x&& !decide (x=k)) cnt'→cnt' < cnt→Stp (fun x=>x=r) w w'→w'.heap.size=w.heap.size→
   (Instr.entry (.pointer (some ⟨r,0,none⟩))).run Tryz.prog w'= .ok (.tuple #[.int .i64 k, .slice va vn vc]) w'→wpList Tryz.prog ops Q rest (a.put o.dst (.tuple #[.bool true, .int .i64 k, .slice va vn vc])) w'):wpList Tryz.prog ops Q (o::rest) a w:=
 Z67 hw x ho hx h h0 (fun k v w' cnt' a1 a2 a3 a4 a5 a6 a7 a8=>by
  obtain⟨va,vn,vc,rfl⟩:=hsh k v a3
  exact h1 k va vn vc w' cnt' a1 a2 a3 a4 a5 a6 a7 a8)
end
def DS.part (S:DS) (h:Int→Blk) (left:Int→Bool):DS:= { S with st:=fun k=>if left k then S.st k else h k,wt:=fun k=>if left k then S.wt k else []}
theorem Zgy {S:DS} {h:Int→Blk} {left:Int→Bool} (h1:∀ k,left k=false→S.wt k= []) (h2:∀ k,S.wt k= []→h k=S.st k):S.part h left=S:=by
 cases S with
 | mk n st wt wr=>
   simp only [DS.part,DS.mk.injEq,true_and,and_true]
   refine⟨?_,?_⟩<;>funext k<;>cases e:left k
   · simp;exact h2 k (h1 k e)
   · simp
   · simp;exact h1 k e
   · simp
theorem Zej (S:DS) (h:Int→Blk) (left:Int→Bool) (k:Int):(S.part h left).settle k (h k)=S.part h (fun x=>left x&& !decide (x=k)):=by
 simp only [DS.part,DS.settle,DS.mk.injEq,true_and,and_true]
 refine⟨?_,?_⟩<;>funext x<;>by_cases e:x=k<;>simp [e]
theorem Zma (S:DS) (h:Int→Blk) {left:Int→Bool} (hl:∀ k,left k=false):S.part h left= { S with st:=h,wt:=fun _=> []} :=by
 simp [DS.part,hl]
structure Lp (w wr:World) (g:Nat) (sp:Value) (m1 m2 r:Nat) (S:DS) (h:Int→Blk) (F:Nat→Prop) (f:Int→Option Value) (left:Int→Bool) (cnt:Nat):Prop where
 d:Dk wr g sp m1 m2 (S.part h left) f F
 rg:RgI Tryz.prog 3 wr m2 r f left cnt
 step:Stp F w wr
theorem Lp.shape {w wr:World} {g:Nat} {sp:Value} {m1 m2 r:Nat} {S:DS} {h:Int→Blk} {F:Nat→Prop} {f:Int→Option Value} {left:Int→Bool} {cnt:Nat} (L:Lp w wr g sp m1 m2 r S h F f left cnt):
 ∀ k v,f k=some v→∃ a n c,v= .slice a n c:=fun k v e=>by
 by_cases e1:(S.part h left).wt k= []
 · rw [L.d.w0 k e1]at e;cases e
 · obtain⟨r,c,e2,_⟩:=L.d.w1 k e1;rw [e2]at e;injection e with e;exact⟨_,_,_,e.symm⟩
theorem Lp.come {w wr:World} {g:Nat} {sp:Value} {m1 m2 r:Nat} {S:DS} {h:Int→Blk} {F:Nat→Prop} {f:Int→Option Value} {left:Int→Bool} {cnt:Nat} (L:Lp w wr g sp m1 m2 r S h F f left cnt) (hFr:∀ x,F x→x < r) {k:Int} {va:Option Addr} {vn vc:Nat} (hl:left k=true) (hf:f k=some (.slice va vn vc))
 {w':World} (hs:Stp (fun x=>x=r) wr w'):
 S.inn k∧(S.part h left).wt k=S.wt k∧(S.part h left).st k=S.st k∧vn=(S.wt k).length∧Dk w' g sp m1 m2 (S.part h left) f F∧Bls w' va vn vc (S.wt k):=by
 have e1:(S.part h left).wt k=S.wt k:=by simp [DS.part,hl]
 have e2:(S.part h left).st k=S.st k:=by simp [DS.part,hl]
 have hne:(S.part h left).wt k≠ []:=fun e=>by rw [L.d.w0 k e]at hf;cases hf
 have hd:=L.d.step hs (fun x hx e=>by have:=hFr x hx;omega)
 obtain⟨a,c,e3,e4⟩:=hd.waits k
 rw [hf,e1]at e3
 simp only [Option.getD_some,Value.slice.injEq]at e3
 obtain⟨rfl,rfl,rfl⟩:=e3
 rw [e1]at e4
 exact⟨Decidable.byContradiction fun hn=>hne (L.d.ok.wt k hn),e1,e2,rfl,hd,e4⟩
theorem Zk8 {F:Nat→Prop} {w:World} {g m1 m2 r:Nat} {sp:Value} {S:DS} {f:Int→Option Value} {left:Int→Bool} {cnt:Nat} (h:Dk w g sp m1 m2 S f F) (hr:RgI Tryz.prog 3 w m2 r f left cnt) (hr1:r≠m1) (i:Int) (hi:S.inn i) (hl:left i=false) (b:Blk):
 Calls Tryz.prog 101 #[.pointer (some ⟨g,0,none⟩), .int .i64 i, .agg b.cs.toArray] w fun e w'=>e= .returned (.tuple #[])∧Dk w' g sp m1 m2 (S.settle i b) (upd f i none) F∧(∃ cnt',cnt'≤cnt∧RgI Tryz.prog 3 w' m2 r (upd f i none) left cnt')∧Stp (fun x=>x=m1∨x=m2) w w':=by
 have hwf:(Lit.int .i64 i).wf=true:=by have:=h.ok.n2;unfold DS.inn at hi;simp [Lit.wf,IntKind.min,IntKind.max,IntKind.bits,IntKind.signed];omega
 refine Z86 h i hi b (fun u f=>∃ cnt',cnt'≤cnt∧RgI Tryz.prog 3 u m2 r f left cnt') (fun x=>x=r) ⟨cnt,Nat.le_refl _,hr⟩ (fun u f h=>by obtain⟨_,_,h⟩:=h;exact h.mp) (fun e=>hr1 e.symm) (fun u u' f B h k hB hr=>by obtain⟨c,hc,h⟩:=h;exact⟨c,hc,h.step k hB (hr r rfl)⟩) (fun u f ty h=>?_)
 obtain⟨c,hc,h⟩:=h
 obtain⟨u',c',h1,h2,h3,h4⟩:=h.drop (t:=160) u3 u64 hwf hl ty
 exact⟨u',h1,⟨c',by omega,h2⟩,h4⟩
theorem Lp.next {w wr w1 w2 w3:World} {g:Nat} {sp:Value} {m1 m2 r:Nat} {S:DS} {h:Int→Blk} {F:Nat→Prop} {f:Int→Option Value} {left:Int→Bool} {cnt cnt2:Nat} (L:Lp w wr g sp m1 m2 r S h F f left cnt) {k:Int} (hwr:w.heap.size≤r)
 (s1:Stp (fun x=>x=r) wr w1) (s2:Below w1.heap.size w1 w2) (s3:Stp (fun x=>x=m1∨x=m2) w2 w3) (hd:Dk w3 g sp m1 m2 ((S.part h left).settle k (h k)) (upd f k none) F)
 (hr:RgI Tryz.prog 3 w3 m2 r (upd f k none) (fun x=>left x&& !decide (x=k)) cnt2):Lp w w3 g sp m1 m2 r S h F (upd f k none) (fun x=>left x&& !decide (x=k)) cnt2:=by
 rw [Zej]at hd
 refine⟨hd,hr,((L.step.next s1 (fun x hx=> .inr (by omega))).trans (Stp.of_below s2 F)).next s3 (fun x hx=>?_)⟩
 rcases hx with hx | hx
 · exact .inl (hx▸hd.f1)
 · exact .inl (hx▸hd.f2)
def DS.flush (S:DS) (p:Option PS):DS:=if oErr p=0 then { S with st:=S.shown,wt:=fun _=> []} else S
theorem Zdq {S:DS} {k:Int} (h:S.wt k= []):S.shown k=S.st k:=by unfold DS.shown Z1w;rw [h];rfl
set_option maxRecDepth 100000 in
set_option maxHeartbeats 2000000 in
theorem Zio {w:World} {g:Nat} {sp:Value} {S:DS} {p:Option PS} {F G:Nat→Prop} (h:DD w g sp S p F G) (ok:oOk p):
 Calls Tryz.prog 150 #[.pointer (some ⟨g,0,none⟩)] w fun e w'=>e= .returned (.int .i64 (oErr p))∧DD w' g sp (S.flush p) (oUse p) F G∧Stp (fun x=>F x∨G x) w w':=by
 obtain⟨⟨m1,m2,f,hd,hm⟩,hs,hFG,hGl⟩:=h
 have c1:=hd.c1
 have hu:=Zfy hs ok
 by_cases he:oErr p=0
 · have eW:S.flush p= { S with st:=S.shown,wt:=fun _=> []} :=if_pos he
   rw [eW,he];rw [he]at hu
   clear eW he
   go_enter Tryz.func150,Tryz.ntmps150
   go_wp2_with (first
    | (go_at_call 205;refine hu.mono ?_;rintro e w1 ⟨rfl,hk1,hs1⟩
       have hd1:=hd.step hk1 hFG
       have hm1:=hm.step hk1 (hFG m2 hd.f2)
       have c3:=hd1.c3)
    | (refine Z51 (by rfl) _ (by rfl) (by rfl) (Z6h hm1 u64) ?_;rintro w2 ⟨cnt,hrg,hk2,hz2⟩))
   go_frame
   obtain⟨r,hr⟩:∃ r,r=w1.heap.size:=⟨_,rfl⟩
   rw [← hr]at hrg ⊢
   have start:Lp w1 w2 g sp m1 m2 r S S.shown F f (fun k=>(f k).isSome) cnt:=by
    refine⟨?_,hrg,hk2.mono (fun x hx=>hx.elim)⟩
    rw [Zgy (fun k hk=>?_) (fun k hk=>Zdq hk)]
    · exact hd1.step hk2 (fun _ _=>id)
    · refine Decidable.byContradiction fun hn=>?_
      obtain⟨r',c',e,_⟩:=hd1.w1 k hn
      simp [e]at hk
   have hFr:∀ x,F x→x < r:=fun x hx=>by rw [hr];exact hd1.lt x hx
   have hFr1:r≠m1:=fun e=>by have:=hFr m1 hd.f1;omega
   have hwr:w1.heap.size≤r:=by omega
   have hg1:=hd.fg
   clear hd1 hm1 hrg hz2 hk2 c3 c1 hu hm hs hr
   go_loopw [4] (fun _ wr=>∃ left cnt f',Lp w1 wr g sp m1 m2 r S S.shown F f' left cnt) (fun _ wr=>wr.rangeLeft m2 r)
   case atStart=>exact⟨_,_,_,start⟩
   case round=>
    clear start
    obtain⟨left,cnt,f',L⟩:=hrel
    go_wp2_with (first
     | (refine Zl5 (by rfl) _ (by rfl) (by rfl) L.rg L.shape (fun hl=>?_) (fun k va vn vc w3 cnt3 hwf hlk hfk hrg3 hc3 hs3 hz3 hen=>?_)))
    · go_returns
      have k9:Stp F w1 wr:=L.step
      refine⟨rfl,⟨⟨m1,m2,f',?_,L.rg.mp⟩,hs1.step k9 (fun x hx e=>hFG x e hx),hFG,fun x hx=>Nat.lt_of_lt_of_le (hGl x hx) (Nat.le_trans hk1.size k9.size)⟩,(hk1.mono (F':=fun x=>F x∨G x) (fun x hx=> .inl (.inr hx))).next k9 (fun x hx=> .inl (.inl hx))⟩
      have:=L.d
      rw [Zma S _ hl]at this
      exact this
    · obtain⟨hin,e1,e2,e3,hd3,hb3⟩:=L.come hFr hlk hfk hs3
      refine(Z4a hd3 k hwf hb3).mono ?_
      rintro e w4 ⟨rfl,hb4⟩
      have e4:Z1w (S.part S.shown left) k (S.wt k)=S.shown k:=by show(S.wt k).getLastD ((S.part S.shown left).st k)=(S.wt k).getLastD (S.st k);rw [e2]
      rw [e4]
      clear e1 e2 e3 e4 hen hz3 hb3
      go_wp2_with fail
      refine(Zk8 (hd3.step (Stp.of_below hb4 (fun _=>False)) (fun _ _=>id)) (hrg3.step (Stp.of_below hb4 (fun _=>False)) id id) hFr1 k hin (by simp) (S.shown k)).mono ?_
      rintro e w5 ⟨rfl,hd5,⟨cnt5,hc5,hrg5⟩,hs5⟩
      go_wp2_with fail
      go_roundw
      case rel=>exact⟨_,_,_,L.next hwr hs3 hb4 hs5 hd5 hrg5⟩
      case measure=>rw [hrg5.left_eq,L.rg.left_eq];omega
 · have eW:S.flush p=S:=if_neg he
   rw [eW]
   go_enter Tryz.func150,Tryz.ntmps150
   go_wp2_with (first
    | (go_at_call 205;refine hu.mono ?_;rintro e w1 ⟨rfl,hk1,hs1⟩))
   go_returns
   exact⟨rfl,⟨⟨m1,m2,f,hd.step hk1 hFG,hm.step hk1 (hFG m2 hd.f2)⟩,hs1,hFG,fun x hx=>Nat.lt_of_lt_of_le (hGl x hx) hk1.size⟩,hk1.mono (fun x hx=> .inl (.inr hx))⟩
theorem Zbc {B:Nat→Prop} {w w':World} {v:Value} {n:Nat} {xs:List Value} (h:w.ownsRow 0 64 64 v n xs) (k:Stp B w w') (hB:∀ r,v.ownBlock=some r→¬B r):w'.ownsRow 0 64 64 v n xs:=by
 refine⟨h.1,?_⟩
 rcases h.2 with h2 | ⟨g',cap,cur,e2,e3,e4,e5⟩
 · exact .inl h2
 · refine .inr ⟨g',cap,cur,e2,e3,?_,e5⟩
   rw [k.block g' (Array.getElem?_eq_some_iff.1 e4).1 (hB g' (by rw [e2];rfl))];exact e4
end Go.Proofs.YtogdffonjhghcaaGreatDoor
