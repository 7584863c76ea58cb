/-
  Texts of my own, joined: no statement is proved here.
-/
import Derived.Test.YtogdffonjhghcaaGreatDoorJbe
set_option linter.unusedSimpArgs false
set_option linter.unusedVariables false
namespace Go.Proofs.YtogdffonjhghcaaGreatDoor
open Go.ChangeShapes Go.WideShapes Go.ChangeAt Go.RowKit Go.Shelf Go.Sort
attribute [local go_sem] Oper.semAt_some
theorem uSh:Tryz.prog.underlying 272=some (.map 3 279):=by kernel_rfl
theorem zSh (w:World):(zeroValue 279).run Tryz.prog w= .ok (.agg (shC 0 0).toArray) w:=srtS.zero w
theorem zE (w:World):(zeroValue 276).run Tryz.prog w= .ok (.agg #[]) w:=by kernel_rfl
theorem Zj3 {B:Nat} {F:Nat→Prop} {W W':World} (k:Stp F W W') (h:∀ x o,B≤x→F x→W.heap[x]? =some o→o.isCells=true):KeepsFrom B W W':=
 ⟨k.size,fun x o hB hx ho=>by
   have hlt:=(Array.getElem?_eq_some_iff.1 hx).1
   by_cases hF:F x
   · rw [h x o hB hF hx]at ho;cases ho
   · rw [k.block x hlt hF];exact hx⟩
theorem Zqw {F:Nat→Prop} {W W':World} (k:Stp F W W') {b c:Nat} (h1:b < W.heap.size) (h2:c < W.heap.size) (h3:¬F b) (h4:¬F c):Kb b c W W':=⟨k.block b h1 h3,k.block c h2 h4⟩
theorem Zqv {w:World} {b c:Nat} (hb:b < w.heap.size) (hc:c < w.heap.size) (W:World) (l:Nat) (o o':Obj) (hl:w.heap.size≤l) (h:W.heap[l]? =some o) (h1:o.isCells=false) (h2:o.isWalk=false):Kb b c W (W.putObj l o'):=by
 have hg:=grownBy_putObj' W l o'
 have hlt:=(Array.getElem?_eq_some_iff.1 h).1
 exact⟨hg.block b (by omega) (fun e=>by injection e with e;omega),hg.block c (by omega) (fun e=>by injection e with e;omega)⟩
theorem Zd2 {b n c r:Nat} (h:(Value.slice (some ⟨b,0,none⟩) n c).ownBlock=some r):b=r:=by simpa [Value.ownBlock]using h
theorem Cs.notSet {w:World} {g b n:Nat} {cs:List Value} {S:Int→Bool} (h:Cs w g cs) (hm:MpS w b S n):g≠b:=fun e=>by
 obtain⟨⟨t,h⟩,_⟩:=h
 obtain⟨D,⟨es,clock,hh,_⟩,_⟩:=hm
 rw [e,hh]at h;cases h
structure NeI (w w0 W:World) (is:List Int) (g gg gS gM gl bS mS:Nat) (v:Value) (cw cs cl:List Pt):Prop where
 ms:∃ n,n≤is.length+6 * cw.length∧MpS W bS (wS is cw) n
 sh:MpI Tryz.prog 3 W mS (shF cs)
 bl:Cs W gl [v]
 ol:OwV W v (ids cl)
 nw:New w0.heap.size v
 cg:Cs W gg [.pointer (some ⟨g,0,none⟩)]
 cS:Cs W gS [.map (some bS)]
 cM:Cs W gM [.map (some mS)]
 b:Below w.heap.size w W
 z:w0.heap.size≤W.heap.size
def NeF (gl bS mS:Nat) (v:Value) (y:Nat):Prop:=y=gl∨y=bS∨y=mS∨v.ownBlock=some y
structure NeA (w w0:World) (gg gS gM gl bS mS:Nat):Prop where
 g1:w.heap.size≤gg∧gg < w0.heap.size
 g2:w.heap.size≤gS∧gS < w0.heap.size
 g3:w.heap.size≤gM∧gM < w0.heap.size
 g4:w.heap.size≤gl∧gl < w0.heap.size
 g5:w.heap.size≤bS∧bS < w0.heap.size
 g6:w.heap.size≤mS∧mS < w0.heap.size
 n1:gg≠gl∧gS≠gl∧gM≠gl
 n2:bS≠mS
section
variable {w w0 W W' W1 : World} {is : List Int} {g gg gS gM gl bS mS : Nat} {v v' : Value} {cw cs cl : List Pt} {p : Pt}
theorem NeI.step (h:NeI w w0 W is g gg gS gM gl bS mS v cw cs cl) {F:Nat→Prop} (k:Stp F W W') (h1:¬F bS) (h2:¬F mS) (h3:¬F gl) (h4:∀ r,v.ownBlock=some r→¬F r) (h5:¬F gg∧¬F gS∧¬F gM) (hb:Below w.heap.size w W'):NeI w w0 W' is g gg gS gM gl bS mS v cw cs cl:=by
 obtain⟨n,e1,e2⟩:=h.ms
 exact⟨⟨n,e1,e2.step k h1⟩,h.sh.step k h2,h.bl.step k h3,h.ol.step k h4,h.nw,h.cg.step k h5.1,h.cS.step k h5.2.1,h.cM.step k h5.2.2,hb,Nat.le_trans h.z k.size⟩
theorem NeI.later (h:NeI w w0 W is g gg gS gM gl bS mS v cw cs cl) (k:Below W.heap.size W W'):NeI w w0 W' is g gg gS gM gl bS mS v cw cs cl:=
 h.step (Stp.of_below k (fun _=>False)) id id id (fun _ _=>id) ⟨id,id,id⟩ (Z01 h.b k (Nat.le_refl _))
theorem NeI.own (A:NeA w w0 gg gS gM gl bS mS) (h:NeI w w0 W is g gg gS gM gl bS mS v cw cs cl) {row:Option Nat} (hg:W.grownBy W' row) (hr:∀ r,row=some r→w0.heap.size≤r∧∃ o:Obj,W.heap[r]? =some o∧o.isCells=false):NeI w w0 W' is g gg gS gM gl bS mS v cw cs cl:=by
 have k:Stp (fun x=>row=some x) W W':=Stp.of_grown hg (fun x e=> .inl e)
 have low:∀ x,x < w0.heap.size→¬(row=some x):=fun x hx e=>by have:=(hr x e).1;omega
 have hv:∀ r,v.ownBlock=some r→¬(row=some r):=fun r hr' e=>by
  obtain⟨_,o,ho,hc⟩:=hr r e
  rcases h.ol.2 with⟨e1,_⟩ | ⟨g',c',cur,e1,e2,e3,_⟩
  · rw [e1]at hr';cases hr'
  · rw [e1]at hr'
    obtain rfl:=Zd2 hr'
    rw [e3]at ho;cases ho;cases hc
 refine h.step k (low _ A.g5.2) (low _ A.g6.2) (low _ A.g4.2) hv ⟨low _ A.g1.2,low _ A.g2.2,low _ A.g3.2⟩ (h.b.grown hg h.b.size (fun x e=>?_))
 have:=(hr x e).1
 have:=A.g1
 omega
theorem NeI.want (A:NeA w w0 gg gS gM gl bS mS) (h:NeI w w0 W is g gg gS gM gl bS mS v cw cs cl) {n:Nat} (hn:n≤is.length+6 * cw.length) (h6:p.needs.length≤6) (hM:MpS W' bS (fun x=>wS is cw x||p.needs.contains x) (n+p.needs.length)) (k:Stp (fun x=>x=bS) W W') (hv:∀ r,v.ownBlock=some r→r≠bS) (ha:gl≠bS∧gg≠bS∧gS≠bS∧gM≠bS):NeI w w0 W' is g gg gS gM gl bS mS v (cw++ [p]) cs cl:=by
 refine⟨⟨n+p.needs.length,by simp;omega,by rw [Zq0];exact hM⟩,h.sh.step k (Ne.symm A.n2),h.bl.step k ha.1,h.ol.step k hv,h.nw,h.cg.step k ha.2.1,h.cS.step k ha.2.2.1,h.cM.step k ha.2.2.2,((Stp.of_below h.b (fun _=>False)).next k (fun x e=> .inr (by have:=A.g5;omega))).below (Nat.le_refl _) (fun x e=>e.elim),Nat.le_trans h.z k.size⟩
theorem NeI.shade (A:NeA w w0 gg gS gM gl bS mS) (h:NeI w w0 W is g gg gS gM gl bS mS v cw cs cl) (hM:MpI Tryz.prog 3 W' mS (shF (cs++ [p]))) (k:Stp (fun x=>x=mS) W W') (hv:∀ r,v.ownBlock=some r→r≠mS) (ha:gl≠mS∧gg≠mS∧gS≠mS∧gM≠mS):NeI w w0 W' is g gg gS gM gl bS mS v cw (cs++ [p]) cl:=by
 obtain⟨n,e1,e2⟩:=h.ms
 exact⟨⟨n,e1,e2.step k A.n2⟩,hM,h.bl.step k ha.1,h.ol.step k hv,h.nw,h.cg.step k ha.2.1,h.cS.step k ha.2.2.1,h.cM.step k ha.2.2.2,((Stp.of_below h.b (fun _=>False)).next k (fun x e=> .inr (by have:=A.g6;omega))).below (Nat.le_refl _) (fun x e=>e.elim),Nat.le_trans h.z k.size⟩
theorem NeI.tell (A:NeA w w0 gg gS gM gl bS mS) (h:NeI w w0 W is g gg gS gM gl bS mS v cw cs cl) (b1:Below W.heap.size W W1) (hA:Apd W1 w0.heap.size 3 1 v (ids cl).length 1 ((ids cl).map (Value.int .i64)++ [.int .i64 p.id]) v' W') (h1:v'.oneCell'=true):
 NeI w w0 (W'.setCell ⟨gl,0,none⟩ v') is g gg gS gM gl bS mS v' cw cs (cl++ [p])∧Stp (fun x=>x=gl∨v.ownBlock=some x) W (W'.setCell ⟨gl,0,none⟩ v')∧W'.cell? ⟨gl,0,none⟩=some v∧W'.frozen? ⟨gl,0,none⟩=false:=by
 obtain⟨q1,q2,q3,q4,_⟩:=hA
 have hlo:∀ x,x < w0.heap.size→¬v.ownBlock=some x:=fun x hx e=>by have:=h.nw x e;omega
 have s1:Stp (fun x=>v.ownBlock=some x) W W':=(Stp.of_below b1 _).trans q4
 have o1:OwV W' v' (ids (cl++ [p])):=by
  unfold OwV
  have:ids (cl++ [p])=ids cl++ [p.id]:=by simp [ids]
  rw [this];simpa using q1
 have c1:=h.bl.step s1 (hlo _ A.g4.2)
 have s2:Stp (fun x=>x=gl) W' (W'.setCell ⟨gl,0,none⟩ v'):=(Stp.refl (fun x=>x=gl) W').setCell (p:=⟨gl,0,none⟩) (.inl rfl) _
 have s12:Stp (fun x=>x=gl∨v.ownBlock=some x) W (W'.setCell ⟨gl,0,none⟩ v'):=(s1.mono (fun x e=> .inl (.inr e))).trans (s2.mono (fun x e=> .inl (.inl e)))
 have hgl:∀ r,v'.ownBlock=some r→r≠gl:=fun r e=>by have:=q2 r e;have:=A.g4;omega
 obtain⟨n,e1,e2⟩:=h.ms
 have hne:∀ x,x < w0.heap.size→x≠gl→¬(x=gl∨v.ownBlock=some x):=fun x hx e=>by rintro (e1 | e1);exact e e1;exact hlo x hx e1
 have hms:bS≠gl∧mS≠gl:=by
  refine⟨fun e=>?_,fun e=>?_⟩
  · exact h.bl.notSet e2 e.symm
  · exact h.bl.notMap h.sh e.symm
 refine⟨⟨⟨n,e1,e2.step s12 (hne _ A.g5.2 hms.1)⟩,h.sh.step s12 (hne _ A.g6.2 hms.2),c1.set 0 _ h1,o1.step s2 hgl,q2,h.cg.step s12 (hne _ A.g1.2 A.n1.1),h.cS.step s12 (hne _ A.g2.2 A.n1.2.1),h.cM.step s12 (hne _ A.g3.2 A.n1.2.2),((Stp.of_below h.b (fun _=>False)).next s12 (fun x e=> .inr (by rcases e with e | e;have:=A.g4;omega;have:=h.nw x e;have:=A.g4;omega))).below (Nat.le_refl _) (fun x e=>e.elim),Nat.le_trans h.z s12.size⟩,s12,c1.cell 0 _ rfl,c1.frozen 0⟩
theorem Z6t {w w':World} {B n m:Nat} {v v':Value} {l:List Value} (hA:Apd w B 3 1 v n m l v' w'):∃ a n c,v'= .slice a n c:=by
 rcases hA.1.2 with⟨e,_⟩ | ⟨g,cap,cur,e,_⟩
 · exact⟨_,_,_,e⟩
 · exact⟨_,_,_,e⟩
end
theorem Zek {w:World} {v:Value} {l:List Int} (h:OwV w v l) (hl:l.length≤1000000):
 Calls Tryz.prog 212 #[v] w fun e w'=>e= .returned (.tuple #[])∧OwV w' v l.reverse∧Stp (fun x=>v.ownBlock=some x) w w':=by
 rcases h.row with⟨rfl,rfl⟩ | ⟨g,cap,cur,rfl,hw⟩
 · refine Calls.mono (Any.slices_Reverse_int_empty lays112 none 0 w) ?_
   rintro e w' ⟨rfl,rfl⟩
   exact⟨rfl,OwV.nil _,Stp.refl _ _⟩
 · refine Calls.mono (Any.slices_Reverse_int lays112 g 0 cap l w hw.holds (by omega)) ?_
   rintro e w' ⟨rfl,q,rfl⟩
   refine⟨rfl,?_,(Z9m w g q _).mono (fun x e=> .inl (by subst e;rfl))⟩
   have hlr:l.reverse.length=l.length:=List.length_reverse
   rw [← hlr]
   refine Rw1.own (cur:=putCells (Value.int .i64) 0 l.reverse.toArray cur) ⟨Z83 _ hw.at',by rw [hlr];exact hw.le,hw.cm,by simp [putCells,hw.size],?_⟩
   exact take_putCellsI cur l.reverse (by rw [hlr,hw.size];exact hw.le)
theorem Zee (l:List Pt):(ids l).reverse=ids l.reverse:=by unfold ids;rw [List.map_reverse]
theorem Zpu (l:List Pt):thP l (fun _=>true)=l:=List.filter_eq_self.2 (fun _ _=>rfl)
theorem Zqt {l:List Pt} (h:0 < l.length):ids l≠ []:=fun e=>by
 have:=congrArg List.length e
 simp [ids]at this;rw [this]at h;simp at h
theorem Z7v (l:List Pt):(ids l).length=l.length:=by unfold ids;simp
theorem Zg9 {w:World} {bx b len cap:Nat} {zs:List Int} (n:Nat) (hn:1≤n) (hlen:len≤100000) (hpos:0 < len) (r:Cs w bx [.slice (some ⟨b,0,none⟩) len cap]) (hc:∀ j,j < len→w.cell? ⟨b,0+j,none⟩=some (.int .i64 (zs.getD j 0))) (el:Nat→Fin len) (hel:∀ j,j < len→(el j).1=j):
 SeqStopsK Fence.wide n Tryz.prog 266 #[.pointer (some ⟨bx,0,none⟩)] (fun x:Fin len=>#[Value.int .i64 (x.1:Int),Value.int .i64 (zs.getD x.1 0)]) (Kb b bx) (fun ys=>ys=bk el len 0) (fun _=>True) len w:=fun l J Jx W hW _ _ hY h0=>
 Zl7 (fun x:Fin len=>#[Value.int .i64 (x.1:Int),Value.int .i64 (zs.getD x.1 0)]) el Fence.wide n trivial rfl hn l bx b 0 len cap zs hlen (fun j hj=>by simp only [hel j hj]) J Jx (fun pre x W1 h1 h2=>hY pre x W1 h1 h2) W ((r.later hW).cell 0 _ rfl) (fun j hj=>by rw [hW.cell (World.block_lt_of_cell? w _ (hc j hj))];exact hc j hj) h0
set_option maxRecDepth 100000 in
set_option maxHeartbeats 4000000 in
theorem Zgs {w:World} {g mp mw:Nat} {f fw:Int→Option Value} {Z:GZ} {E F:Nat→Prop} (H:Gr w g mp mw f fw Z E F) {s:Sv} {is:List Int} (hs:InsS w s is) (hl:is.length≤1000) (hzl:Z.l.length≤100) (hn6:∀ p ∈ Z.l,p.needs.length≤6) (hne:0 < Z.l.length):
 Calls Tryz.prog 146 #[.pointer (some ⟨g,0,none⟩), .slice s.a s.n s.c] w fun e w'=>∃ v,e= .returned v∧OwV w' v (ids (nd is Z.l))∧New w.heap.size v∧Below w.heap.size w w':=by
 have hmm:= @run_makeMap Tryz.prog
 refine(callsIn_wide (n:=6)).1 ?_
 refine callsIn_of_wp_marks Tryz.func146 rfl trivial ?_ rfl
 simp only [Tryz.ntmps146,List.size_toArray,List.length_cons,List.length_nil,Nat.reduceAdd,Nat.reduceSub,Array.replicate_succ,Array.replicate_zero,List.push_toArray,List.append_toArray,List.nil_append,List.cons_append]
 refine wpIn_wide.2 ?_
 have bA:=wA_b w (.pointer (some ⟨g,0,none⟩))
 have hW:=Z4z (wA_m w (.pointer (some ⟨g,0,none⟩))) (hs.later bA) (by omega)
 have gA:=wA_g w (.pointer (some ⟨g,0,none⟩)) rfl
 have vA:=wA_v w (.pointer (some ⟨g,0,none⟩))
 unfold wA at hW
 go_wp2_with (first
  | (go_at_call 208;refine hW.mono ?_;rintro e w3 ⟨rfl,M3,s3⟩;clear hW
     have B3:Below w.heap.size w w3:=((Stp.of_below bA (fun _=>False)).next s3 (fun x e=> .inr (by omega))).below (Nat.le_refl _) (fun x e=>e.elim)
     have g3:=gA.step s3 (by omega)
     have v3:=vA.step s3 (by omega)
     have bB:=wB_b w3
     have gB:=(g3.later bB).cell 0 _ rfl
     have lB:=wB_l w3
     have mB:=wB_m w3
     have qB:=wB_v w3
     have B4:=Z01 B3 bB (Nat.le_refl _)
     have H4:=H.later B4
     have hAll:=Z32 H4
     unfold wB at gB hAll)
  | (go_at_call 58;refine hAll.mono ?_;rintro e w4 ⟨va,rfl,o4,n4,b4⟩;clear hAll
     rw [Zpu]at o4
     obtain⟨xb,xc,xcur,rfl,r4⟩:=o4.row1 (Zqt hne))
  | (go_at_call 209;refine(Z3t _ _ _ _).mono ?_;rintro e w5 ⟨bx,rfl,h5,r5,b5⟩
     have l5:=(lB.later b4).later b5)
  )
 refine(wpIn_wide (n:=6)).1 ?_
 rw [Z7v]at r5
 have z3:=B3.size
 have z5:=b5.size
 have zB:=bB.size
 have b4':Below (wB w3).heap.size (wB w3) w4:=b4
 have z4:=b4'.size
 have n4':(wB w3).heap.size≤xb:=n4 xb (by simp [Value.ownBlock])
 have lxb:xb < w4.heap.size:=r4.lt
 have lbx:=r5.lt
 have B5:Below w.heap.size w w5:=Z01 (Z01 B4 b4' (Nat.le_refl _)) b5 (Nat.le_refl _)
 have hgM:w3.heap.size+1+1 < (wB w3).heap.size:=lB.lt
 have hgv:w.heap.size+1+1 < w3.heap.size:=v3.lt
 have A:NeA w w5 w.heap.size (w.heap.size+1+1) (w3.heap.size+1) (w3.heap.size+1+1) (w.heap.size+1) w3.heap.size:=⟨by omega,by omega,by omega,by omega,by omega,by omega,by omega,by omega⟩
 have i0:∃ v,NeI w w5 w5 is g w.heap.size (w.heap.size+1+1) (w3.heap.size+1) (w3.heap.size+1+1) (w.heap.size+1) w3.heap.size v [] [] []:=by
  refine⟨.slice none 0 0,⟨⟨is.length,by omega,?_⟩,?_,l5,⟨rfl, .inl ⟨rfl,rfl⟩⟩,(fun r e=>by cases e),((g3.later bB).later b4').later b5,((v3.later bB).later b4').later b5,(qB.later b4').later b5,B5,Nat.le_refl _⟩⟩
  · rw [Zrm]
    have:=((M3.later bB).later b4').later b5
    rw [Nat.zero_add]at this;exact this
  · rw [Zpm];exact(mB.later b4').later b5
 have hord:w.heap.size+1 < (wB w3).heap.size∧w3.heap.size < (wB w3).heap.size:=⟨by omega,by omega⟩
 have hcells:∀ j,j < Z.l.length→w5.cell? ⟨xb,0+j,none⟩=some (.int .i64 ((ids Z.l).getD j 0)):=fun j hj=>by
  have h1:=r4.cell j (by rw [Z7v];exact hj)
  rw [Nat.zero_add,b5.cell (World.block_lt_of_cell? w4 _ h1)];exact h1
 clear gB hmm gA vA bA s3 g3 v3 bB lB mB qB B4 H4 b4 o4 n4 r4 l5 M3
 generalize w3.heap.size+1+1=gl at *
 generalize w3.heap.size+1=gM at *
 generalize w3.heap.size=mS at *
 generalize w.heap.size+1+1=gS at *
 generalize w.heap.size+1=bS at *
 generalize hgg:w.heap.size=gg at A i0 ⊢
 have hgg':Hid (w.heap.size=gg):=hgg
 clear hgg
 refine wpIn_rangeFunc_ownG (F:=Fence.wide) (n:=6) (w0:=w5) rfl (by omega) (gf:=266) (lb:=#[.pointer (some ⟨bx,0,none⟩)]) rfl trivial (enters_of Tryz.func266 (by kernel_rfl) rfl)
  (Zg9 5 (by omega) (by omega) hne r5 hcells (fun j=>if h:j < Z.l.length then⟨j,h⟩else⟨0,hne⟩) (fun j hj=>by simp [hj])) (fun h k=>h.trans k) (Zqv (by omega) lbx) (Below.refl _ _) (fun _=>rfl)
  (fun pre W=>∃ v,NeI w w5 W is g gg gS gM gl bS mS v (chL is Z.l pre) (chL is Z.l pre) (chL is Z.l pre))
  (fun _ _ _=>False)
  (fun pre W W' row h hg hr=>h.imp (fun v h=>h.own A hg hr))
  (fun _ _ _ _ _ hs _ _=>hs)
  i0 ?a1 ?assign ?body ?done ?stop
 case assign=>
  intro l x W K hK
  gi_wp2
  exact hK
 case stop=>exact fun D c pre W _ _ h _=>h.elim
 case body=>
  rintro l pre x W ⟨v0,I0⟩ hlt
  have hcs:=Zo6 (is:=is) (l:=Z.l) pre
  have hcl:=Zo5 (is:=is) (l:=Z.l) pre
  have hcn:=Zcf is Z.l pre x
  have fin:∀ {W':World} {v':Value},NeI w w5 W' is g gg gS gM gl bS mS v' (chS is Z.l (chL is Z.l pre) x) (chS is Z.l (chL is Z.l pre) x) (chS is Z.l (chL is Z.l pre) x)→Stp (NeF gl bS mS v0) W W'→KeepsFrom w5.heap.size W W'∧Kb xb bx W W'∧∃ v,NeI w w5 W' is g gg gS gM gl bS mS v (chL is Z.l (pre++ [x])) (chL is Z.l (pre++ [x])) (chL is Z.l (pre++ [x])):=fun {W' v'} h k=>by
   rw [hcn]
   have hz:=I0.z
   refine⟨Zj3 k (fun y o hB hF ho=>?_),Zqw k (by omega) (by omega) (fun e=>?_) (fun e=>?_),v',h⟩
   · rcases hF with e | e | e | e
     · have:=A.g4;omega
     · have:=A.g5;omega
     · have:=A.g6;omega
     · rcases I0.ol.2 with⟨e1,_⟩ | ⟨g',c',cur,e1,e2,e3,_⟩
       · rw [e1]at e;cases e
       · rw [e1]at e
         obtain rfl:=Zd2 e
         rw [e3]at ho;cases ho;rfl
   · rcases e with e | e | e | e
     · omega
     · omega
     · omega
     · have:=I0.nw _ e;omega
   · rcases e with e | e | e | e
     · omega
     · omega
     · omega
     · have:=I0.nw _ e;omega
  clear hcn
  generalize chL is Z.l pre=c at *
  have HW:=H.later I0.b
  obtain⟨p,hp⟩:∃ p,Z.l[x.1]? =some p:=⟨_,List.getElem?_eq_getElem x.2⟩
  have hpm:=List.mem_of_getElem? hp
  have hid:(ids Z.l)[x.1]?.getD 0=p.id:=by unfold ids;rw [List.getElem?_map,hp];rfl
  obtain⟨d4,n4,e4,m4,_⟩:=HW.look p.id
  rw [H.ok.gt_of hpm]at e4 m4
  have hwp:=H.ok.wfp hpm
  have hfp:=H.ok.ft p hpm
  have hnp:=hn6 p hpm
  rw [hid]
  have pmW:=HW.pm
  obtain⟨z0,z1,z2⟩:=HW.cells
  have cg:=I0.cg.cell 0 _ rfl
  have hsw:=Zkr is c p
  have hfc:∀ q ∈ wtP c p.at',fit q=true∧q.at'=p.at':=fun q hq=>by
   obtain⟨k1,k2,_⟩:=Z0y.1 hq
   exact⟨H.ok.ft q (hcs q k1),k2⟩
  have hmt:=Zd0 p hfp (wtP c p.at') hfc
  have hshl:=Zc7 (wtP c p.at') (fun q hq=>(hfc q hq).1)
  rw [← hmt]at hsw
  have hMe:=fun(u:World)=>Z76 (shB (wtP c p.at')) (shK (wtP c p.at')) p d4 n4 u hshl.1 hshl.2 hfp m4.bs.len.symm
  have eS:=Zpl c p.at'
  clear hmt hfc
  obtain⟨mt,emt⟩:∃ mt,mt=mtS (shB (wtP c p.at')) (shK (wtP c p.at')) p:=⟨_,rfl⟩
  rw [← emt]at hsw
  simp only [← emt]at hMe
  obtain⟨inn,ein⟩:∃ inn,inn=wS is c p.id:=⟨_,rfl⟩
  rw [← ein]at hsw
  have hE1:∀ n,MpS W bS (wS is c) n→(stF (wS is c) p.id).getD (.agg #[])= .agg #[]∧(stF (wS is c) p.id).isSome=inn:=fun n _=>by
   rw [ein];unfold stF;cases wS is c p.id<;>exact⟨rfl,rfl⟩
  obtain⟨nn,hnn,hMS⟩:=I0.ms
  obtain⟨eI1,eI2⟩:=hE1 nn hMS
  clear hE1 ein emt
  have t1:True:=trivial
  have t2:True:=trivial
  cases hw:wnt is c p with
  | false=>
    have hsw':inn=false∧(p.wr=true∨mt=false):=by
     rw [hw]at hsw
     have h9:=hsw.symm
     simp only [Bool.or_eq_false_iff,Bool.and_eq_false_iff,Bool.not_eq_false']at h9
     exact h9
    obtain⟨hi,hwm⟩:=hsw'
    subst hi
    clear hsw
    by_cases hwr:p.wr=true
    · gi_wp2_with (first
       | (clear t1;refine Z0o (fun⟨_,_,h⟩=>h) _ _ _ (by rfl) ?_
          go_wp2_with (first
           | (clear t2;refine Z1a 186 56 uPm _ zP (by rfl) _ _ (by rfl) mp f (by rfl) pmW p.id (by rfl) hwp.i _ e4 ?_)
           | (refine Z0t (by rfl) (by rfl) ?_;intro gp w1 a1 a2 r1 b1)
           | (refine Z0i (by rfl) _ _ (by rfl) gp (by rfl) p d4 n4 (by rfl) _ r1 rfl ?_;intro w2 r2 s2
              have B2:Below W.heap.size W w2:=((Stp.of_below b1 (fun _=>False)).next s2 (fun x e=> .inr (by omega))).below (Nat.le_refl _) (fun x e=>e.elim)
              have I2:=I0.later B2
              have cS2:=I2.cS.cell 0 _ rfl
              have M2:=(hMS.later B2).mp (by omega)
              have b3:Below w2.heap.size w2 (w2.alloc (.cells #[] 276)):=(Below.refl _ w2).alloc (Nat.le_refl _) _
              have I3:=I2.later b3
              have B3w:=Z01 B2 b3 (Nat.le_refl _)
              have M3:=hMS.later B3w
              have r3:=r2.later b3
              have cM3:=I3.cM.cell 0 _ rfl
              have cl3:=I3.bl.cell 0 _ rfl
              have sh3:=I3.sh
              obtain⟨k0,k1,k2,k3,k4,k5,k6,k7,k8⟩:=Pt.cells r3
              clear r2 s2 b1 r1 I2 b3
              have t8:True:=trivial
              have t9:True:=trivial)))
       | (clear t8;refine Z0o (fun⟨_,_,h⟩=>h) _ _ _ (by rfl) ?_
          go_wp2_with (first
           | (clear t9;refine Z1i 270 276 uSm _ zE (by rfl) _ _ (by rfl) bS _ (by rfl) M2 p.id (by rfl) hwp.i _ eI1 _ eI2 ?_;clear M2 cS2;have t10:True:=trivial)))
       | (clear t10;have t13:True:=trivial;generalize w2.alloc (.cells #[] 276)=u3 at *;refine Z0o (fun⟨_,_,h⟩=>h) _ _ _ (by rfl) ?_
          go_wp2_with fail))
      refine fin (v':=v0) (by rw [Zcg hp hw];exact I3) (Stp.of_below B3w _)
    · have hwr:p.wr=false:=by simpa using hwr
      obtain rfl:mt=false:=by rcases hwm with h | h;rw [hwr]at h;cases h;exact h
      gi_wp2_with (first
       | (clear t1;refine Z0o (fun⟨_,_,h⟩=>h) _ _ _ (by rfl) ?_
          go_wp2_with (first
           | (clear t2;refine Z1a 186 56 uPm _ zP (by rfl) _ _ (by rfl) mp f (by rfl) pmW p.id (by rfl) hwp.i _ e4 ?_)
           | (refine Z0t (by rfl) (by rfl) ?_;intro gp w1 a1 a2 r1 b1)
           | (refine Z0i (by rfl) _ _ (by rfl) gp (by rfl) p d4 n4 (by rfl) _ r1 rfl ?_;intro w2 r2 s2
              have B2:Below W.heap.size W w2:=((Stp.of_below b1 (fun _=>False)).next s2 (fun x e=> .inr (by omega))).below (Nat.le_refl _) (fun x e=>e.elim)
              have I2:=I0.later B2
              have cS2:=I2.cS.cell 0 _ rfl
              have M2:=(hMS.later B2).mp (by omega)
              have b3:Below w2.heap.size w2 (w2.alloc (.cells #[] 276)):=(Below.refl _ w2).alloc (Nat.le_refl _) _
              have I3:=I2.later b3
              have B3w:=Z01 B2 b3 (Nat.le_refl _)
              have M3:=hMS.later B3w
              have r3:=r2.later b3
              have cM3:=I3.cM.cell 0 _ rfl
              have cl3:=I3.bl.cell 0 _ rfl
              have sh3:=I3.sh
              obtain⟨k0,k1,k2,k3,k4,k5,k6,k7,k8⟩:=Pt.cells r3
              clear r2 s2 b1 r1 I2 b3
              have t8:True:=trivial
              have t9:True:=trivial)))
       | (clear t8;refine Z0o (fun⟨_,_,h⟩=>h) _ _ _ (by rfl) ?_
          go_wp2_with (first
           | (clear t9;refine Z1i 270 276 uSm _ zE (by rfl) _ _ (by rfl) bS _ (by rfl) M2 p.id (by rfl) hwp.i _ eI1 _ eI2 ?_;clear M2 cS2;have t10:True:=trivial)))
       | (clear t10;generalize w2.alloc (.cells #[] 276)=u3 at *;refine Z0o (fun⟨_,_,h⟩=>h) _ _ _ (by rfl) ?_
          have t11:True:=trivial
          have t12:True:=trivial
          go_wp2_with (first
           | (clear t11;refine Z1a 272 279 uSh _ zSh (by rfl) _ _ (by rfl) mS _ (by rfl) sh3 p.at' (by rfl) hwp.s _ eS ?_)
           | (clear t12;refine Z0c (by rfl) _ (by rfl) gp (by rfl) p d4 n4 r3 ?_)
           | (go_at_call 210;refine(hMe _).mono ?_;rintro e w9 ⟨rfl,b9⟩
              have I9:=I3.later b9
              have r9:=r3.later b9
              have B9w:=Z01 B3w b9 (Nat.le_refl _)
              have M9:=M3.later b9
              have cl9:=I9.bl.cell 0 _ rfl
              have t13:True:=trivial))))
      refine fin (v':=v0) (by rw [Zcg hp hw];exact I9) (Stp.of_below B9w _)
  | true=>
    have hWi:=fun(u:World)=>Z97 (shB (wtP c p.at')) (shK (wtP c p.at')) p d4 n4 u hshl.1 hshl.2 hfp m4.bs.len.symm
    obtain⟨va,vn,vc,rfl⟩:=I0.ol.shape
    have hvlt:∀ r,(Value.slice va vn vc).ownBlock=some r→r < W.heap.size:=fun r hr=>I0.ol.lt hr
    have hbig:(ids c).length+1≤1000000:=by rw [Z7v];omega
    have hzW:=I0.z
    have hgp:∀ gp,W.heap.size≤gp→¬(gp=gl∨(Value.slice va vn vc).ownBlock=some gp):=fun gp h1 e=>by
     rcases e with e | e
     · have:=A.g4;omega
     · have:=hvlt gp e;omega
    have hgb:∀ gp,W.heap.size≤gp→¬gp=bS:=fun gp h1 e=>by have:=A.g5;omega
    have hEF:∀ y,E y→¬NeF gl bS mS (.slice va vn vc) y:=fun y hy e=>by
     have:=H.el y hy
     rcases e with e | e | e | e
     · have:=A.g4;omega
     · have:=A.g5;omega
     · have:=A.g6;omega
     · have:=I0.nw y e;have:=A.g4;omega
    have hbS:¬(bS=gl∨(Value.slice va vn vc).ownBlock=some bS):=fun e=>by
     rcases e with e | e
     · exact I0.bl.notSet hMS e.symm
     · have:=I0.nw _ e;have:=A.g5;omega
    have hv10:∀ {v':Value},New w5.heap.size v'→∀ r,v'.ownBlock=some r→r≠bS:=fun h r e e2=>by have:=h r e;have:=A.g5;omega
    have hv11:∀ {v':Value},New w5.heap.size v'→∀ r,v'.ownBlock=some r→r≠mS:=fun h r e e2=>by have:=h r e;have:=A.g6;omega
    have hab:gl≠bS∧gg≠bS∧gS≠bS∧gM≠bS:=⟨I0.bl.notSet hMS,I0.cg.notSet hMS,I0.cS.notSet hMS,I0.cM.notSet hMS⟩
    have hac:gl≠mS∧gg≠mS∧gS≠mS∧gM≠mS:=⟨I0.bl.notMap I0.sh,I0.cg.notMap I0.sh,I0.cS.notMap I0.sh,I0.cM.notMap I0.sh⟩
    have hkS:=Zmu c (fun q hq=>H.ok.ft q (hcs q hq))
    cases inn with
    | true=>
      clear hsw
      by_cases hwr:p.wr=true
      · gi_wp2_with (first
        | (clear t1;refine Z0o (fun⟨_,_,h⟩=>h) _ _ _ (by rfl) ?_
           go_wp2_with (first
            | (clear t2;refine Z1a 186 56 uPm _ zP (by rfl) _ _ (by rfl) mp f (by rfl) pmW p.id (by rfl) hwp.i _ e4 ?_)
            | (refine Z0t (by rfl) (by rfl) ?_;intro gp w1 a1 a2 r1 b1)
            | (refine Z0i (by rfl) _ _ (by rfl) gp (by rfl) p d4 n4 (by rfl) _ r1 rfl ?_;intro w2 r2 s2
               have B2:Below W.heap.size W w2:=((Stp.of_below b1 (fun _=>False)).next s2 (fun x e=> .inr (by omega))).below (Nat.le_refl _) (fun x e=>e.elim)
               have I2:=I0.later B2
               have cS2:=I2.cS.cell 0 _ rfl
               have M2:=(hMS.later B2).mp (by omega)
               have b3:Below w2.heap.size w2 (w2.alloc (.cells #[] 276)):=(Below.refl _ w2).alloc (Nat.le_refl _) _
               have I3:=I2.later b3
               have B3w:=Z01 B2 b3 (Nat.le_refl _)
               have M3:=hMS.later B3w
               have r3:=r2.later b3
               have cM3:=I3.cM.cell 0 _ rfl
               have cl3:=I3.bl.cell 0 _ rfl
               have sh3:=I3.sh
               obtain⟨k0,k1,k2,k3,k4,k5,k6,k7,k8⟩:=Pt.cells r3
               clear r2 s2 b1 r1 I2 b3
               have t8:True:=trivial
               have t9:True:=trivial)))
        | (clear t8;refine Z0o (fun⟨_,_,h⟩=>h) _ _ _ (by rfl) ?_
           go_wp2_with (first
            | (clear t9;refine Z1i 270 276 uSm _ zE (by rfl) _ _ (by rfl) bS _ (by rfl) M2 p.id (by rfl) hwp.i _ eI1 _ eI2 ?_;clear M2 cS2;have t10:True:=trivial)))
        | (clear t10;have t13:True:=trivial;generalize w2.alloc (.cells #[] 276)=u3 at *;refine Z0o (fun⟨_,_,h⟩=>h) _ _ _ (by rfl) ?_
           go_wp2_with fail)
        | (clear t13;refine Z0o (fun⟨_,_,h⟩=>h) _ _ _ (by rfl) ?_
           have bA:Below u3.heap.size u3 (u3.alloc (.cells #[.int .i64 p.id] 3)):=(Below.refl _ _).alloc (Nat.le_refl _) _
           go_wp2_with (first
            | (at_builtin;refine Z2m elI w5.heap.size rfl _ _ (by rfl) (by rfl) (Z25 I3.ol bA) I3.nw (some ⟨u3.heap.size,0,none⟩) 1 [.int .i64 p.id] (by rfl) (by simp) (fun e=>by cases e) (fun ad e=>by injection e with e;subst e;exact cell_one_new _ _ _) (by simp [Value.oneCell']) hbig (Nat.le_trans I3.z bA.size) ?_
               intro v10 w10 hA
               obtain⟨xa,xn,xc',rfl⟩:=Z6t hA
               obtain⟨I10,S10,f1,f2⟩:=NeI.tell A I3 bA hA rfl
               have S10w:Stp (NeF gl bS mS (.slice va vn vc)) W (w10.setCell ⟨gl,0,none⟩ (.slice xa xn xc')):=(Stp.of_below B3w (NeF gl bS mS (.slice va vn vc))).next S10 (fun y e=> .inl (by rcases e with e | e;exact .inl e;exact .inr (.inr (.inr e))))
               have r10:=r3.step S10 (hgp gp a1)
               have m10:=m4.step S10w hEF
               have M10:=M3.step S10 hbS
               have cS10:=I10.cS.cell 0 _ rfl
               obtain⟨_,_,_,_,_,q5,_,_,_⟩:=Pt.cells r10
               clear hA
               have t14:True:=trivial)))
        | (clear t14;refine Z0o (fun⟨_,_,h⟩=>h) _ _ _ (by rfl) ?_
           go_wp2_with (first
            | (go_at_call 208;refine(Z4z M10 m10.is (by omega)).mono ?_;rintro e w11 ⟨rfl,M11,s11⟩
               have I11:=I10.want A hnn hnp M11 s11 (hv10 I10.nw) hab
               have r11:=r10.step s11 (hgb gp a1)
               have S11:Stp (NeF gl bS mS (.slice va vn vc)) W w11:=S10w.next s11 (fun y e=> .inl (.inr (.inl e)))
               obtain⟨_,_,_,_,_,_,_,_,p8⟩:=Pt.cells r11))))
        refine fin (v':= .slice xa xn xc') ?_ S11
        rw [Z7o hp hw]
        have e9:=Zmv c p hwr
        exact⟨I11.ms,by rw [e9];exact I11.sh,I11.bl,I11.ol,I11.nw,I11.cg,I11.cS,I11.cM,I11.b,I11.z⟩
      · have hwr:p.wr=false:=by simpa using hwr
        gi_wp2_with (first
        | (clear t1;refine Z0o (fun⟨_,_,h⟩=>h) _ _ _ (by rfl) ?_
           go_wp2_with (first
            | (clear t2;refine Z1a 186 56 uPm _ zP (by rfl) _ _ (by rfl) mp f (by rfl) pmW p.id (by rfl) hwp.i _ e4 ?_)
            | (refine Z0t (by rfl) (by rfl) ?_;intro gp w1 a1 a2 r1 b1)
            | (refine Z0i (by rfl) _ _ (by rfl) gp (by rfl) p d4 n4 (by rfl) _ r1 rfl ?_;intro w2 r2 s2
               have B2:Below W.heap.size W w2:=((Stp.of_below b1 (fun _=>False)).next s2 (fun x e=> .inr (by omega))).below (Nat.le_refl _) (fun x e=>e.elim)
               have I2:=I0.later B2
               have cS2:=I2.cS.cell 0 _ rfl
               have M2:=(hMS.later B2).mp (by omega)
               have b3:Below w2.heap.size w2 (w2.alloc (.cells #[] 276)):=(Below.refl _ w2).alloc (Nat.le_refl _) _
               have I3:=I2.later b3
               have B3w:=Z01 B2 b3 (Nat.le_refl _)
               have M3:=hMS.later B3w
               have r3:=r2.later b3
               have cM3:=I3.cM.cell 0 _ rfl
               have cl3:=I3.bl.cell 0 _ rfl
               have sh3:=I3.sh
               obtain⟨k0,k1,k2,k3,k4,k5,k6,k7,k8⟩:=Pt.cells r3
               clear r2 s2 b1 r1 I2 b3
               have t8:True:=trivial
               have t9:True:=trivial)))
        | (clear t8;refine Z0o (fun⟨_,_,h⟩=>h) _ _ _ (by rfl) ?_
           go_wp2_with (first
            | (clear t9;refine Z1i 270 276 uSm _ zE (by rfl) _ _ (by rfl) bS _ (by rfl) M2 p.id (by rfl) hwp.i _ eI1 _ eI2 ?_;clear M2 cS2;have t10:True:=trivial)))
        | (clear t10;have t13:True:=trivial;generalize w2.alloc (.cells #[] 276)=u3 at *;refine Z0o (fun⟨_,_,h⟩=>h) _ _ _ (by rfl) ?_
           go_wp2_with fail)
        | (clear t13;refine Z0o (fun⟨_,_,h⟩=>h) _ _ _ (by rfl) ?_
           have bA:Below u3.heap.size u3 (u3.alloc (.cells #[.int .i64 p.id] 3)):=(Below.refl _ _).alloc (Nat.le_refl _) _
           go_wp2_with (first
            | (at_builtin;refine Z2m elI w5.heap.size rfl _ _ (by rfl) (by rfl) (Z25 I3.ol bA) I3.nw (some ⟨u3.heap.size,0,none⟩) 1 [.int .i64 p.id] (by rfl) (by simp) (fun e=>by cases e) (fun ad e=>by injection e with e;subst e;exact cell_one_new _ _ _) (by simp [Value.oneCell']) hbig (Nat.le_trans I3.z bA.size) ?_
               intro v10 w10 hA
               obtain⟨xa,xn,xc',rfl⟩:=Z6t hA
               obtain⟨I10,S10,f1,f2⟩:=NeI.tell A I3 bA hA rfl
               have S10w:Stp (NeF gl bS mS (.slice va vn vc)) W (w10.setCell ⟨gl,0,none⟩ (.slice xa xn xc')):=(Stp.of_below B3w (NeF gl bS mS (.slice va vn vc))).next S10 (fun y e=> .inl (by rcases e with e | e;exact .inl e;exact .inr (.inr (.inr e))))
               have r10:=r3.step S10 (hgp gp a1)
               have m10:=m4.step S10w hEF
               have M10:=M3.step S10 hbS
               have cS10:=I10.cS.cell 0 _ rfl
               obtain⟨_,_,_,_,_,q5,_,_,_⟩:=Pt.cells r10
               clear hA
               have t14:True:=trivial)))
        | (clear t14;refine Z0o (fun⟨_,_,h⟩=>h) _ _ _ (by rfl) ?_
           go_wp2_with (first
            | (go_at_call 208;refine(Z4z M10 m10.is (by omega)).mono ?_;rintro e w11 ⟨rfl,M11,s11⟩
               have I11:=I10.want A hnn hnp M11 s11 (hv10 I10.nw) hab
               have r11:=r10.step s11 (hgb gp a1)
               have S11:Stp (NeF gl bS mS (.slice va vn vc)) W w11:=S10w.next s11 (fun y e=> .inl (.inr (.inl e)))
               obtain⟨_,_,_,_,_,_,_,_,p8⟩:=Pt.cells r11))))
        have cM11:=I11.cM.cell 0 _ rfl
        have hx2:=m10.bs.len
        refine Z5s (S:=fun u=>Below w11.heap.size w11 u) _ _ (fun⟨_,_,h⟩=>h) (by rfl) (by simp only [List.pop_toArray,List.dropLast_cons_cons,List.dropLast_singleton];rfl) (by simp only [List.back?_toArray,List.getLast?_cons_cons,List.getLast?_singleton];rfl) (by kernel_rfl) (by kernel_rfl) (Below.refl _ _).drew (fun hHeld=>?_)
        refine tl 0 (.map (some mS)) rfl ?_ (fun u hu=>by have x1:=(I11.cM.later hu).cell 0 _ rfl;go_simp)
        try simp only [z]
        refine tl 1 (.pointer (some ⟨gp,1,none⟩)) rfl ?_
        try simp only [z]
        refine tl 2 (.int .i64 p.at') rfl ?_ (fun u hu=>by have x1:=(r11.later hu).cell 1 _ rfl;go_simp)
        try simp only [z]
        refine tl 3 (.map (some mS)) rfl ?_ (fun u hu=>by have x1:=(I11.cM.later hu).cell 0 _ rfl;go_simp)
        try simp only [z]
        refine tl 4 (.pointer (some ⟨gp,1,none⟩)) rfl ?_
        try simp only [z]
        refine tl 5 (.int .i64 p.at') rfl ?_ (fun u hu=>by have x1:=(r11.later hu).cell 1 _ rfl;go_simp)
        try simp only [z]
        refine tm 6 (.agg (shC (shB (wtP c p.at')) (shK (wtP c p.at'))).toArray) rfl
         (Z31 272 279 uSh _ zSh (by rfl) _ _ (by rfl) mS _ (by rfl) p.at' (by rfl) hwp.s (fun u hu=>I11.sh.later hu) _ eS) ?_
        try simp only [z]
        refine tm 7 (.agg (p.cs d4 n4).toArray) rfl
         (Z0w (by rfl) _ (by rfl) gp (by rfl) p d4 n4 (fun u hu=>r11.later hu)) ?_
        try simp only [z]
        refine rd 8 rfl (fun K hK=>?_)
        go_simp
        refine(hWi _).mono ?_
        rintro e w12 ⟨rfl,b12⟩
        try go_wp2_with fail
        refine hK.out _ _ (Z01 hHeld b12 (Nat.le_refl _)) (fun hHeld=>?_)
        clear hK K
        try simp only [z]
        refine wpAnyH_done (by kernel_rfl) ?_ _
        show wpList _ _ _ [_] _ _
        have I12:=I11.later hHeld
        refine Z3j 272 279 uSh (by rfl) _ _ _ (by rfl) mS _ (by rfl) p.at' (by rfl) (.agg (shC (oB (shB (wtP c p.at')) p) (oK (shK (wtP c p.at')) p)).toArray) (by rfl) I12.sh hkS hwp.s ?_
        intro w13 m13 s13
        rw [show oB (shB (wtP c p.at')) p=shB (wtP c p.at'++ [p])from(Z42 _ _).symm,show oK (shK (wtP c p.at')) p=shK (wtP c p.at'++ [p])from(Z43 _ _).symm,← Zfs c p hwr]at m13
        have I13:=I12.shade A m13 s13 (hv11 I10.nw) hac
        have S13:Stp (NeF gl bS mS (.slice va vn vc)) W w13:=(S11.next (Stp.of_below hHeld (fun _=>False)) (fun y e=>e.elim)).next s13 (fun y e=> .inl (.inr (.inr (.inl e))))
        simp only [Act.put]
        go_wp2_with fail
        refine fin (v':= .slice xa xn xc') ?_ S13
        rw [Z7o hp hw]
        exact I13
    | false=>
      have hsw':p.wr=false∧mt=true:=by
       rw [hw]at hsw
       have h9:=hsw.symm
       simp only [Bool.false_or,Bool.and_eq_true,Bool.not_eq_true']at h9
       exact h9
      obtain⟨hwr,rfl⟩:=hsw'
      clear hsw
      gi_wp2_with (first
       | (clear t1;refine Z0o (fun⟨_,_,h⟩=>h) _ _ _ (by rfl) ?_
          go_wp2_with (first
           | (clear t2;refine Z1a 186 56 uPm _ zP (by rfl) _ _ (by rfl) mp f (by rfl) pmW p.id (by rfl) hwp.i _ e4 ?_)
           | (refine Z0t (by rfl) (by rfl) ?_;intro gp w1 a1 a2 r1 b1)
           | (refine Z0i (by rfl) _ _ (by rfl) gp (by rfl) p d4 n4 (by rfl) _ r1 rfl ?_;intro w2 r2 s2
              have B2:Below W.heap.size W w2:=((Stp.of_below b1 (fun _=>False)).next s2 (fun x e=> .inr (by omega))).below (Nat.le_refl _) (fun x e=>e.elim)
              have I2:=I0.later B2
              have cS2:=I2.cS.cell 0 _ rfl
              have M2:=(hMS.later B2).mp (by omega)
              have b3:Below w2.heap.size w2 (w2.alloc (.cells #[] 276)):=(Below.refl _ w2).alloc (Nat.le_refl _) _
              have I3:=I2.later b3
              have B3w:=Z01 B2 b3 (Nat.le_refl _)
              have M3:=hMS.later B3w
              have r3:=r2.later b3
              have cM3:=I3.cM.cell 0 _ rfl
              have cl3:=I3.bl.cell 0 _ rfl
              have sh3:=I3.sh
              obtain⟨k0,k1,k2,k3,k4,k5,k6,k7,k8⟩:=Pt.cells r3
              clear r2 s2 b1 r1 I2 b3
              have t8:True:=trivial
              have t9:True:=trivial)))
       | (clear t8;refine Z0o (fun⟨_,_,h⟩=>h) _ _ _ (by rfl) ?_
          go_wp2_with (first
           | (clear t9;refine Z1i 270 276 uSm _ zE (by rfl) _ _ (by rfl) bS _ (by rfl) M2 p.id (by rfl) hwp.i _ eI1 _ eI2 ?_;clear M2 cS2;have t10:True:=trivial)))
       | (clear t10;generalize w2.alloc (.cells #[] 276)=u3 at *;refine Z0o (fun⟨_,_,h⟩=>h) _ _ _ (by rfl) ?_
          have t11:True:=trivial
          have t12:True:=trivial
          go_wp2_with (first
           | (clear t11;refine Z1a 272 279 uSh _ zSh (by rfl) _ _ (by rfl) mS _ (by rfl) sh3 p.at' (by rfl) hwp.s _ eS ?_)
           | (clear t12;refine Z0c (by rfl) _ (by rfl) gp (by rfl) p d4 n4 r3 ?_)
           | (go_at_call 210;refine(hMe _).mono ?_;rintro e w9 ⟨rfl,b9⟩
              have I9:=I3.later b9
              have r9:=r3.later b9
              have B9w:=Z01 B3w b9 (Nat.le_refl _)
              have M9:=M3.later b9
              have cl9:=I9.bl.cell 0 _ rfl
              have t13:True:=trivial)))
       | (clear t13;refine Z0o (fun⟨_,_,h⟩=>h) _ _ _ (by rfl) ?_
          have bA:Below w9.heap.size w9 (w9.alloc (.cells #[.int .i64 p.id] 3)):=(Below.refl _ _).alloc (Nat.le_refl _) _
          go_wp2_with (first
           | (at_builtin;refine Z2m elI w5.heap.size rfl _ _ (by rfl) (by rfl) (Z25 I9.ol bA) I9.nw (some ⟨w9.heap.size,0,none⟩) 1 [.int .i64 p.id] (by rfl) (by simp) (fun e=>by cases e) (fun ad e=>by injection e with e;subst e;exact cell_one_new _ _ _) (by simp [Value.oneCell']) hbig (Nat.le_trans I9.z bA.size) ?_
              intro v10 w10 hA
              obtain⟨xa,xn,xc',rfl⟩:=Z6t hA
              obtain⟨I10,S10,f1,f2⟩:=NeI.tell A I9 bA hA rfl
              have S10w:Stp (NeF gl bS mS (.slice va vn vc)) W (w10.setCell ⟨gl,0,none⟩ (.slice xa xn xc')):=(Stp.of_below B9w (NeF gl bS mS (.slice va vn vc))).next S10 (fun y e=> .inl (by rcases e with e | e;exact .inl e;exact .inr (.inr (.inr e))))
              have r10:=r9.step S10 (hgp gp a1)
              have m10:=m4.step S10w hEF
              have M10:=M9.step S10 hbS
              have cS10:=I10.cS.cell 0 _ rfl
              obtain⟨_,_,_,_,_,q5,_,_,_⟩:=Pt.cells r10
              clear hA
              have t14:True:=trivial)))
       | (clear t14;refine Z0o (fun⟨_,_,h⟩=>h) _ _ _ (by rfl) ?_
          go_wp2_with (first
           | (go_at_call 208;refine(Z4z M10 m10.is (by omega)).mono ?_;rintro e w11 ⟨rfl,M11,s11⟩
              have I11:=I10.want A hnn hnp M11 s11 (hv10 I10.nw) hab
              have r11:=r10.step s11 (hgb gp a1)
              have S11:Stp (NeF gl bS mS (.slice va vn vc)) W w11:=S10w.next s11 (fun y e=> .inl (.inr (.inl e)))
              obtain⟨_,_,_,_,_,_,_,_,p8⟩:=Pt.cells r11))))
      have cM11:=I11.cM.cell 0 _ rfl
      have hx2:=m10.bs.len
      refine Z5s (S:=fun u=>Below w11.heap.size w11 u) _ _ (fun⟨_,_,h⟩=>h) (by rfl) (by simp only [List.pop_toArray,List.dropLast_cons_cons,List.dropLast_singleton];rfl) (by simp only [List.back?_toArray,List.getLast?_cons_cons,List.getLast?_singleton];rfl) (by kernel_rfl) (by kernel_rfl) (Below.refl _ _).drew (fun hHeld=>?_)
      refine tl 0 (.map (some mS)) rfl ?_ (fun u hu=>by have x1:=(I11.cM.later hu).cell 0 _ rfl;go_simp)
      try simp only [z]
      refine tl 1 (.pointer (some ⟨gp,1,none⟩)) rfl ?_
      try simp only [z]
      refine tl 2 (.int .i64 p.at') rfl ?_ (fun u hu=>by have x1:=(r11.later hu).cell 1 _ rfl;go_simp)
      try simp only [z]
      refine tl 3 (.map (some mS)) rfl ?_ (fun u hu=>by have x1:=(I11.cM.later hu).cell 0 _ rfl;go_simp)
      try simp only [z]
      refine tl 4 (.pointer (some ⟨gp,1,none⟩)) rfl ?_
      try simp only [z]
      refine tl 5 (.int .i64 p.at') rfl ?_ (fun u hu=>by have x1:=(r11.later hu).cell 1 _ rfl;go_simp)
      try simp only [z]
      refine tm 6 (.agg (shC (shB (wtP c p.at')) (shK (wtP c p.at'))).toArray) rfl
       (Z31 272 279 uSh _ zSh (by rfl) _ _ (by rfl) mS _ (by rfl) p.at' (by rfl) hwp.s (fun u hu=>I11.sh.later hu) _ eS) ?_
      try simp only [z]
      refine tm 7 (.agg (p.cs d4 n4).toArray) rfl
       (Z0w (by rfl) _ (by rfl) gp (by rfl) p d4 n4 (fun u hu=>r11.later hu)) ?_
      try simp only [z]
      refine rd 8 rfl (fun K hK=>?_)
      go_simp
      refine(hWi _).mono ?_
      rintro e w12 ⟨rfl,b12⟩
      try go_wp2_with fail
      refine hK.out _ _ (Z01 hHeld b12 (Nat.le_refl _)) (fun hHeld=>?_)
      clear hK K
      try simp only [z]
      refine wpAnyH_done (by kernel_rfl) ?_ _
      show wpList _ _ _ [_] _ _
      have I12:=I11.later hHeld
      refine Z3j 272 279 uSh (by rfl) _ _ _ (by rfl) mS _ (by rfl) p.at' (by rfl) (.agg (shC (oB (shB (wtP c p.at')) p) (oK (shK (wtP c p.at')) p)).toArray) (by rfl) I12.sh hkS hwp.s ?_
      intro w13 m13 s13
      rw [show oB (shB (wtP c p.at')) p=shB (wtP c p.at'++ [p])from(Z42 _ _).symm,show oK (shK (wtP c p.at')) p=shK (wtP c p.at'++ [p])from(Z43 _ _).symm,← Zfs c p hwr]at m13
      have I13:=I12.shade A m13 s13 (hv11 I10.nw) hac
      have S13:Stp (NeF gl bS mS (.slice va vn vc)) W w13:=(S11.next (Stp.of_below hHeld (fun _=>False)) (fun y e=>e.elim)).next s13 (fun y e=> .inl (.inr (.inr (.inl e))))
      simp only [Act.put]
      go_wp2_with fail
      refine fin (v':= .slice xa xn xc') ?_ S13
      rw [Z7o hp hw]
      exact I13
 case done=>
  rintro D ys W hD rfl ⟨v,I⟩ hK
  have e1:=Zf9 (is:=is) (l:=Z.l) (fun j=>if h:j < Z.l.length then⟨j,h⟩else⟨0,hne⟩) (fun j hj=>by simp [hj]) Z.l.length 0 (by omega)
  rw [e1,List.drop_zero]at I
  obtain⟨va,vn,vc,rfl⟩:=I.ol.shape
  have cl:=I.bl.cell 0 _ rfl
  have hnl:=Zd1 is Z.l
  have hR:=Zek I.ol (by rw [Z7v,List.length_reverse];omega)
  rw [Zee,List.reverse_reverse]at hR
  have hgl:∀ r,(Value.slice va vn vc).ownBlock=some r→¬r=gl:=fun r e e2=>by have:=I.nw r e;have:=A.g4;omega
  go_wp2_with (first
   | (go_at_call 212;refine hR.mono ?_;rintro e w6 ⟨rfl,o6,s6⟩
      have cl6:=(I.bl.step s6 (fun e=>hgl _ e rfl)).cell 0 _ rfl
      have hK6:w6.heap[D]? =some (.deferred (some [])):=by
       have hlt:=(Array.getElem?_eq_some_iff.1 hK).1
       rw [s6.block D hlt (fun e=>?_)]
       · exact hK
       · rcases I.ol.2 with⟨e1,_⟩ | ⟨g',c',cur,e1,e2,e3,_⟩
         · rw [e1]at e;cases e
         · rw [e1]at e
           obtain rfl:=Zd2 e
           rw [e3]at hK;cases hK))
  refine⟨by simp, .inl ⟨_,_,rfl,run_takeDeferred hK6,?_⟩⟩
  have B6:Below w.heap.size w w6:=((Stp.of_below I.b (fun _=>False)).next s6 (fun x e=> .inr (by have:=I.nw x e;have:=A.g4;omega))).below (Nat.le_refl _) (fun x e=>e.elim)
  refine⟨_,results_tmp rfl _ _ _, .slice va vn vc,rfl,ownsRow_putObj o6 _ hK6 rfl,fun r e=>?_,B6.trans (belowK_b (w:=w) (Nat.le_refl _) w6 D _ _ (by have:=B5.size;omega) hK6 rfl rfl)⟩
  have:=I.nw r e
  have:=A.g4
  omega
end Go.Proofs.YtogdffonjhghcaaGreatDoor
namespace Go.Proofs.YtogdffonjhghcaaGreatDoor
open Go.ChangeShapes Go.WideShapes Go.ChangeAt Go.RowKit Go.Shelf
attribute [local go_sem] Oper.semAt_some
theorem OwV.zero {w:World} {v:Value} (h:OwV w v []):∃ a c,v= .slice a 0 c:=by
 rcases h.row with⟨e,_⟩ | ⟨g,cap,cur,e,_⟩
 · exact⟨_,_,e⟩
 · exact⟨_,_,e⟩
set_option maxRecDepth 100000 in
set_option maxHeartbeats 4000000 in
theorem Zeh {w:World} {g mp mw:Nat} {f fw:Int→Option Value} {Z:GZ} {E F:Nat→Prop} (H:Gr w g mp mw f fw Z E F) {s:Sv} {l:List Int} (hs:InsS w s l) (hl:l.length≤1000) (hz:Z.l= []):
 Calls Tryz.prog 146 #[.pointer (some ⟨g,0,none⟩), .slice s.a s.n s.c] w fun e w'=>e= .returned (.slice none 0 0)∧Below w.heap.size w w':=by
 have hmm:= @run_makeMap Tryz.prog
 refine(callsIn_wide (n:=6)).1 ?_
 refine callsIn_of_wp_marks Tryz.func146 rfl trivial ?_ rfl
 simp only [Tryz.ntmps146,List.size_toArray,List.length_cons,List.length_nil,Nat.reduceAdd,Nat.reduceSub,Array.replicate_succ,Array.replicate_zero,List.push_toArray,List.append_toArray,List.nil_append,List.cons_append]
 refine wpIn_wide.2 ?_
 have bA:=wA_b w (.pointer (some ⟨g,0,none⟩))
 have hW:=Z4z (wA_m w (.pointer (some ⟨g,0,none⟩))) (hs.later bA) (by omega)
 have gA:=wA_g w (.pointer (some ⟨g,0,none⟩)) rfl
 unfold wA at hW
 go_wp2_with (first
  | (go_at_call 208;refine hW.mono ?_;rintro e w3 ⟨rfl,M3,s3⟩;clear hW
     have B3:Below w.heap.size w w3:=((Stp.of_below bA (fun _=>False)).next s3 (fun x e=> .inr (by omega))).below (Nat.le_refl _) (fun x e=>e.elim)
     have g3:=gA.step s3 (by omega)
     have bB:=wB_b w3
     have gB:=(g3.later bB).cell 0 _ rfl
     have lB:=wB_l w3
     have B4:=Z01 B3 bB (Nat.le_refl _)
     have hAll:=Z32 (H.later B4)
     rw [hz]at hAll
     unfold wB at gB hAll)
  | (go_at_call 58;refine hAll.mono ?_;rintro e w4 ⟨va,rfl,o4,n4,b4⟩;clear hAll
     obtain⟨xa,xc,rfl⟩:=OwV.zero o4)
  | (go_at_call 209;refine(Z3t _ _ _ _).mono ?_;rintro e w5 ⟨bx,rfl,h5,r5,b5⟩
     have l5:=(lB.later b4).later b5)
  )
 refine(wpIn_wide (n:=6)).1 ?_
 have b4':Below (wB w3).heap.size (wB w3) w4:=b4
 have z4:=b4'.size
 have z5:=b5.size
 have zB:=bB.size
 have lt5:=l5.lt
 have B5:Below w.heap.size w w5:=Z01 (Z01 B4 b4' (Nat.le_refl _)) b5 (Nat.le_refl _)
 refine wpIn_rangeFunc_ownG (F:=Fence.wide) (n:=6) (w0:=w5) rfl (by omega) (gf:=266) (lb:=#[.pointer (some ⟨bx,0,none⟩)]) rfl trivial (enters_of Tryz.func266 (by kernel_rfl) rfl)
  (Ze9 5 r5) (fun _ _=>trivial) (fun _ _ _ _ _ _ _ _=>trivial) (Below.refl _ _) (fun _=>rfl)
  (fun _ W=>Cs W (w3.heap.size+1+1) [.slice none 0 0]∧Below w.heap.size w W)
  (fun _ _ _=>False)
  (Zei fun s W W' h k=>⟨h.1.step k (by omega),h.2.trans (k.below (Nat.le_trans (Nat.le_refl _) h.2.size) (fun x hx=>Nat.le_trans B5.size hx))⟩)
  (fun _ _ _ _ _ hs _ _=>hs)
  ⟨l5,B5⟩ ?a1 ?assign ?body ?done ?stop
 case assign=>
  intro l x W K hK
  gi_wp2
  exact hK
 case body=>exact fun l pre x W _ hlt=>absurd hlt (Nat.not_lt_zero _)
 case stop=>exact fun D c pre W _ _ h _=>h.elim
 case done=>
  rintro D ys W hD rfl ⟨hC,hB⟩ hK
  have c7:=hC.cell 0 _ rfl
  go_wp2_with (first | (go_at_call 212;refine(Zdg _).mono ?_;rintro e w6 ⟨rfl,rfl⟩))
  refine⟨by simp, .inl ⟨_,_,rfl,run_takeDeferred hK,?_⟩⟩
  exact⟨_,results_tmp rfl _ _ _,rfl,hB.trans (belowK_b (w:=w) (Nat.le_refl _) W D _ _ (by have:=B5.size;omega) hK rfl rfl)⟩
theorem Zeg {w:World} {g mp mw:Nat} {f fw:Int→Option Value} {Z:GZ} {E F:Nat→Prop} (H:Gr w g mp mw f fw Z E F) {s:Sv} {is:List Int} (hs:InsS w s is) (hl:is.length≤1000) (hzl:Z.l.length≤100) (hn6:∀ p ∈ Z.l,p.needs.length≤6):
 Calls Tryz.prog 146 #[.pointer (some ⟨g,0,none⟩), .slice s.a s.n s.c] w fun e w'=>∃ v,e= .returned v∧OwV w' v (ids (nd is Z.l))∧New w.heap.size v∧Below w.heap.size w w':=by
 by_cases h:0 < Z.l.length
 · exact Zgs H hs hl hzl hn6 h
 · have hz:Z.l= []:=List.eq_nil_of_length_eq_zero (by omega)
   refine(Zeh H hs hl hz).mono ?_
   rintro e w' ⟨rfl,b⟩
   exact⟨_,rfl,by rw [hz];exact OwV.nil _,(fun r e=>by cases e),b⟩
end Go.Proofs.YtogdffonjhghcaaGreatDoor
