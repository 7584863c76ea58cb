/-
  Texts of my own, joined: no statement is proved here.
-/
import Derived.Test.YtogdffonjhghcaaGreatDoorJbf
import Derived.Test.YtogdffonjhghcaaGreatDoorJbg
set_option linter.unusedSimpArgs false
set_option linter.unusedVariables false
namespace Go.Proofs.YtogdffonjhghcaaGreatDoor
open Go.ChangeShapes Go.WideShapes Go.ChangeAt Go.RowKit
def btc (v:Value) (b:Bool):List Value:= [v, .bool b]
theorem Zab {v:Value} (h:v.oneCell'=true) (b:Bool):∀ u ∈ btc v b,u.oneCell'=true:=by
 intro u hu;unfold btc at hu;simp at hu
 rcases hu with rfl | rfl
 · exact h
 · rfl
theorem Z9v:Srt 170 2 (btc (.slice none 0 0) false):=
 ⟨⟨_,Tryz.underlying170,rfl⟩,by kernel_rfl,fun w=>(zero_of_info (v:= .agg (btc (.slice none 0 0) false).toArray) (n:=2) (by kernel_rfl)).1 w,rfl,Zab rfl _⟩
theorem Zqm {L:List Int} {l:List Pt} (h:L.length≠1):frS L l=false:=by unfold frS;simp [h]
theorem Zof {l:List Pt} (hs:Rise l) (x:Int):frS [x] l= !((ids (thP l (·.wr))).any fun i=>decide ((gt l i).at'≠x)):=by
 unfold frS
 have e:((ids (thP l (·.wr))).any fun i=>decide ((gt l i).at'≠x))=(thP l (·.wr)).any fun p=>decide (p.at'≠x):=by
  unfold ids
  rw [List.any_map,Bool.eq_iff_iff,List.any_eq_true,List.any_eq_true]
  have hg:∀ p ∈ thP l (·.wr),gt l p.id=p:=fun p hp=>by unfold gt;rw [Z29 hs (List.mem_filter.1 hp).1];rfl
  constructor
  · rintro ⟨p,h1,h2⟩;refine⟨p,h1,?_⟩;simp only [Function.comp_apply,hg p h1]at h2;exact h2
  · rintro ⟨p,h1,h2⟩;refine⟨p,h1,?_⟩;simp only [Function.comp_apply,hg p h1];exact h2
 rw [e,List.not_any_eq_all_not]
 simp
theorem Zec:∀ args w,(callFunc 219 args).run Tryz.prog w= .ok (.enter 219 args) w:=enters_of Tryz.func219 (by kernel_rfl) rfl
set_option maxRecDepth 100000 in
set_option maxHeartbeats 2000000 in
theorem Zet {w:World} {g mp mw:Nat} {f fw:Int→Option Value} {Z:GZ} {E F:Nat→Prop} (H:Gr w g mp mw f fw Z E F) (hnl:∀ p ∈ Z.l,p.needs.length≤100000) {s:Sv} {x:Int} (hs:InsS w s [x]) (g2 g3:Nat) (h2:w.cell? ⟨g2,0,none⟩=some (.pointer (some ⟨g,0,none⟩))) (h3:w.cell? ⟨g3,0,none⟩=some (.slice s.a s.n s.c)) (r:List Int) (hr:∀ i ∈ r,wfi i):
 Z99 w 219 #[.pointer (some ⟨g2,0,none⟩), .pointer (some ⟨g3,0,none⟩)] r (fun i=>decide ((gt Z.l i).at'≠x)):=by
 intro u i hi hu
 have c2:=(Stp.of_below hu (fun _=>False)).cell h2 id
 have hG:=Z12 (H.later hu) i (hr i hi) hnl
 have hsu:=hs.later hu
 have hsn:s.n=1:=hs.i.len.symm
 obtain⟨sb,so,se,hcell⟩:=hs.i.cell (by omega)
 obtain⟨sa,sn,sc⟩:=s
 simp only at hsn se
 subst se
 subst hsn
 have c30:=h3
 have cx:=hcell 0 (by simp)
 simp only [Nat.add_zero,List.getD_cons_zero]at cx
 show Calls Tryz.prog _ #[.int .i64 i, .pointer (some ⟨g2,0,none⟩), .pointer (some ⟨g3,0,none⟩)] u fun e u'=>e= .returned (.bool (decide ((gt Z.l i).at'≠x)))∧Below u.heap.size u u'
 generalize gt Z.l i=p at *
 generalize gE Z.l i=ge at *
 have t2:True:=trivial
 have t3:True:=trivial
 have hpost:Hid ((decide (p.at'≠x))=(p.at' != x)):=by show _=_;rw [Bool.eq_iff_iff];simp
 generalize decide (p.at'≠x)=bb at *
 clear hcell hs hsu
 go_enter Tryz.func219,Tryz.ntmps219
 go_wp2_with (first
  | (go_at_call 220;refine hG.mono ?_;rintro e w4 ⟨d,n,rfl,m4,b4⟩;clear hG)
  | (clear t2;refine Z0t (by rfl) (by rfl) ?_;intro g5 w5 a5 a6 r5 b5)
  | (clear t3;refine Z0i (by rfl) _ _ (by rfl) g5 (by rfl) p d n (by rfl) _ r5 rfl ?_;intro w6 r6 s6))
 have B6:Below u.heap.size u w6:=((Stp.of_below (Z01 b4 b5 (Nat.le_refl _)) (fun _=>False)).next s6 (fun x e=> .inr (by have:=b4.size;omega))).below (Nat.le_refl _) (fun x e=>e.elim)
 have B60:=Z01 hu B6 (Nat.le_refl _)
 refine wp_region_held_drew (S:=fun v=>Below w6.heap.size w6 v) (by kernel_rfl) (Below.refl _ _).drew (fun hHeld=>?_)
 refine tl 0 (.pointer (some ⟨g5,1,none⟩)) rfl ?_
 try simp only [z]
 refine tl 1 (.int .i64 p.at') rfl ?_ (fun u hu=>by have x1:=(Pt.cells (r6.later hu)).2.1;go_simp)
 try simp only [z]
 refine tl 2 (.slice (some ⟨sb,so,none⟩) 1 sc) rfl ?_ (fun u hu=>by have x1:=(Stp.of_below (Z01 B60 hu (Nat.le_refl _)) (fun _=>False)).cell c30 id;go_simp)
 try simp only [z]
 refine tl 3 (.pointer (some ⟨sb,so,none⟩)) rfl ?_
 try simp only [z]
 refine tl 4 (.int .i64 x) rfl ?_ (fun u hu=>by have x1:=(Stp.of_below (Z01 B60 hu (Nat.le_refl _)) (fun _=>False)).cell cx id;go_simp)
 try simp only [z]
 refine tl 5 (.bool (p.at' != x)) rfl ?_
 try simp only [z]
 refine tl 6 (.bool (p.at' != x)) rfl ?_
 try simp only [z]
 refine wpAnyH_done (by kernel_rfl) ?_ _
 go_wp2_with fail
 go_returns
 exact⟨Z0s hpost.out.symm,Z01 B6 hHeld (Nat.le_refl _)⟩
set_option maxRecDepth 100000 in
set_option maxHeartbeats 2000000 in
theorem Zhv {w:World} {g mp mw:Nat} {f fw:Int→Option Value} {Z:GZ} {E F:Nat→Prop} (H:Gr w g mp mw f fw Z E F) (hnl:∀ p ∈ Z.l,p.needs.length≤100000) {s:Sv} {L:List Int} (hs:InsS w s L):
 Calls Tryz.prog 148 #[.pointer (some ⟨g,0,none⟩), .slice s.a s.n s.c] w fun e w'=>e= .returned (.bool (frS L Z.l))∧Below w.heap.size w w':=by
 have hsn:s.n=L.length:=hs.i.len.symm
 by_cases h1:L.length=1
 · obtain⟨x,rfl⟩:∃ x,L= [x]:=List.length_eq_one_iff.1 h1
   have b0:Below w.heap.size w (w.alloc (.cells #[.pointer (some ⟨g,0,none⟩)] 92)):=(Below.refl _ w).alloc (Nat.le_refl _) _
   have b1:Below w.heap.size w ((w.alloc (.cells #[.pointer (some ⟨g,0,none⟩)] 92)).alloc (.cells #[.slice s.a s.n s.c] 54)):=b0.alloc (Nat.le_trans (Nat.le_refl _) b0.size) _
   have hW:=Z5k (H.later b1)
   have hwf:∀ i ∈ ids (thP Z.l (·.wr)),wfi i:=fun i hi=>by
    obtain⟨p,h2,h3⟩:=Z2p.1 hi
    have:=H.ok.rng p (List.mem_filter.1 h2).1;have:=H.ok.lt
    exact Z0z (by omega)
   have hlen:(ids (thP Z.l (·.wr))).length≤1000000:=by
    have h2:=H.ok.few
    have h3:(thP Z.l (·.wr)).length≤Z.l.length:=List.length_filter_le _ _
    unfold ids;rw [List.length_map];omega
   have hT:=Zet (H.later b1) hnl (hs.later b1) w.heap.size (w.heap.size+1) (by simp [go_sem]) (by simp [go_sem]) _ hwf
   have hfr:Hid (frS [x] Z.l= !((ids (thP Z.l (·.wr))).any fun i=>decide ((gt Z.l i).at'≠x))):=Zof H.ok.srt x
   have hC:=fun(u:World) (hu:Below ((w.alloc (.cells #[.pointer (some ⟨g,0,none⟩)] 92)).alloc (.cells #[.slice s.a s.n s.c] 54)).heap.size ((w.alloc (.cells #[.pointer (some ⟨g,0,none⟩)] 92)).alloc (.cells #[.slice s.a s.n s.c] 54)) u) (v:Sv) (hv:InsS u v (ids (thP Z.l (·.wr))))=>Z4n hv hlen 219 #[.pointer (some ⟨w.heap.size,0,none⟩), .pointer (some ⟨w.heap.size+1,0,none⟩)] _ (fun u' i hi hu'=>hT u' i hi (Z01 hu hu' (Nat.le_refl _))) Zec
   generalize ((ids (thP Z.l (·.wr))).any fun i=>decide ((gt Z.l i).at'≠x))=bb at *
   generalize frS [x] Z.l=fr at *
   clear hT
   have hsn':s.n=1:=hsn
   obtain⟨sa,sn,sc⟩:=s
   simp only at hsn'
   subst hsn'
   clear hsn h1
   go_enter Tryz.func148,Tryz.ntmps148
   go_wp2_with (first
    | (go_at_call 60;refine hW.mono ?_;rintro e w3 ⟨v3,rfl,o3,n3,b3⟩;clear hW
       obtain⟨s3,e3,_,i3,_⟩:=o3.ins hwf n3
       subst e3)
    | (go_at_call 218;refine(hC _ b3 s3 i3).mono ?_;rintro e w4 ⟨rfl,b4⟩;clear hC))
   go_returns
   exact⟨Z0s hfr.out.symm,Z01 (Z01 b1 b3 (Nat.le_refl _)) b4 (Nat.le_refl _)⟩
 · have h1':¬(s.n:Int)=1:=by omega
   have hfr:Hid (frS L Z.l=false):=Zqm h1
   clear hsn h1
   have b0:Below w.heap.size w (w.alloc (.cells #[.pointer (some ⟨g,0,none⟩)] 92)):=(Below.refl _ w).alloc (Nat.le_refl _) _
   have b1:Below w.heap.size w ((w.alloc (.cells #[.pointer (some ⟨g,0,none⟩)] 92)).alloc (.cells #[.slice s.a s.n s.c] 54)):=b0.alloc (Nat.le_trans (Nat.le_refl _) b0.size) _
   go_enter Tryz.func148,Tryz.ntmps148
   go_wp2_with fail
   go_returns
   exact⟨Z0s hfr.out.symm,b1⟩
theorem Zo1 (w:World):(Instr.build 170 #[]).run Tryz.prog w= .ok (.agg (btc (.slice none 0 0) false).toArray) w:=by kernel_rfl
theorem Zo2 (s:Sv) (b:Bool) (w:World):(Instr.build 170 #[(0, .slice s.a s.n s.c),(1, .bool b)]).run Tryz.prog w= .ok (.agg (btc (.slice s.a s.n s.c) b).toArray) w:=by kernel_rfl
section
variable {ops : Array Oper} {rest : List Oper} {o : Oper} {a : Act} {w : World} {Q : Exit → Act → World → Prop}
theorem Zkx (hw:Region.wanted o (yielded ops a.tmps)=true) (ho:o.op= .build 170 #[])
 (h:wpList Tryz.prog ops Q rest (a.put o.dst (.agg (btc (.slice none 0 0) false).toArray)) w):wpList Tryz.prog ops Q (o::rest) a w:=by
 refine Z09 hw _ _ ?_ h
 simp [execOp,ho,Zo1]
theorem Zky (hw:Region.wanted o (yielded ops a.tmps)=true) (x y:Operand) (ho:o.op= .build 170 #[(0,x),(1,y)]) (s:Sv) (hx:a.eval x= .slice s.a s.n s.c) (b:Bool) (hy:a.eval y= .bool b)
 (h:wpList Tryz.prog ops Q rest (a.put o.dst (.agg (btc (.slice s.a s.n s.c) b).toArray)) w):wpList Tryz.prog ops Q (o::rest) a w:=by
 refine Z09 hw _ _ ?_ h
 simp [execOp,ho,hx,hy,Zo2]
theorem Z66 (hw:Region.wanted o (yielded ops a.tmps)=true) (ho:o.op= .alloc 170)
 (h:∀ g w',w.heap.size≤g→g < w'.heap.size→Cs w' g (btc (.slice none 0 0) false)→Below w.heap.size w w'→wpList Tryz.prog ops Q rest (a.put o.dst (.pointer (some ⟨g,0,none⟩))) w'):wpList Tryz.prog ops Q (o::rest) a w:=
 Z28 170 2 _ Z9v hw ho h
theorem Z8a (hw:Region.wanted o (yielded ops a.tmps)=true) (y:Operand) (ho:o.op= .load 170 y) (g:Nat) (hx:a.eval y= .pointer (some ⟨g,0,none⟩)) (v:Value) (b:Bool) (hR:Cs w g (btc v b))
 (h:wpList Tryz.prog ops Q rest (a.put o.dst (.agg (btc v b).toArray)) w):wpList Tryz.prog ops Q (o::rest) a w:=
 Z3i 170 2 _ Z9v hw y ho g hx (btc v b) hR rfl h
theorem Z4m (hw:Region.wanted o (yielded ops a.tmps)=true) (y z:Operand) (ho:o.op= .store 170 y z) (g:Nat) (hx:a.eval y= .pointer (some ⟨g,0,none⟩)) (v:Value) (hv:v.oneCell'=true) (b:Bool) (hy:a.eval z= .agg (btc v b).toArray) (cs:List Value) (hR:Cs w g cs) (hl:cs.length=2)
 (h:∀ w',Cs w' g (btc v b)→Stp (fun x=>x=g) w w'→wpList Tryz.prog ops Q rest (a.put o.dst undef) w'):wpList Tryz.prog ops Q (o::rest) a w:=
 Z1q 170 2 _ Z9v hw y z ho g hx (btc v b) hy rfl (Zab hv b) cs hR hl h
end
def mor (is:List Int) (l:List Pt):Bool:= !(nd is l).isEmpty
theorem Zj7 {is:List Int} {l:List Pt} (h:nd is l= []):mor is l=false∧bsS is l= []∧frS (bsS is l) l=false:=by
 have h2:bsS is l= []:=by
  unfold bsS
  rw [h]
  exact List.filter_eq_nil_iff.2 (fun s _=>by simp [ids])
 exact⟨by unfold mor;rw [h];rfl,h2,by rw [h2];rfl⟩
theorem Zos {is:List Int} {l:List Pt} (h:nd is l≠ []):mor is l=true:=by
 unfold mor
 cases hn:nd is l with
 | nil=>exact absurd hn h
 | cons a t=>rfl
theorem Zf5 {Z:GZ} {t:Int} (h:Z.ok t) (is:List Int):∀ s ∈ bsS is Z.l,wfi s:=fun s hs=>by
 have h1:=Z6l.1 (List.mem_filter.1 hs).1
 obtain⟨x,hx⟩:=List.exists_mem_of_ne_nil _ h1
 obtain⟨p,p1,_,p3,_⟩:=Z2b.1 hx
 have:=Z13 (h.ft p p1)
 exact Z0z (by omega)
theorem Zr1 {Z:GZ} (h:Z.ok 2000) (is:List Int):∀ x ∈ ids (nd is Z.l),wfi x:=fun x hx=>by
 obtain⟨p,p1,p2⟩:=Z2p.1 hx
 have:=h.rng p (Z4t is _ p p1);have:=h.lt
 exact Z0z (by omega)
set_option maxRecDepth 100000 in
set_option maxHeartbeats 2000000 in
theorem Z6j {w:World} {g mp mw:Nat} {f fw:Int→Option Value} {Z:GZ} {E F:Nat→Prop} (H:Gr w g mp mw f fw Z E F) {s:Sv} {is:List Int} (hs:InsS w s is) (hl:is.length≤1000) (hzl:Z.l.length≤100) (hn6:∀ p ∈ Z.l,p.needs.length≤6):
 Calls Tryz.prog 96 #[.pointer (some ⟨g,0,none⟩), .slice s.a s.n s.c] w fun e w'=>∃ v,e= .returned (.tuple #[.agg (btc v (frS (bsS is Z.l) Z.l)).toArray, .bool (mor is Z.l)])∧OwV w' v (bsS is Z.l)∧New w.heap.size v∧Below w.heap.size w w':=by
 have hnl:∀ p ∈ Z.l,p.needs.length≤100000:=fun p hp=>by have:=hn6 p hp;omega
 have hN:=fun(u:World) (hu:Below w.heap.size w u)=>Zeg (H.later hu) (hs.later hu) hl hzl hn6
 have hwf:=Zr1 H.ok is
 have hwf2:=Zf5 H.ok is
 have hidl:(ids (nd is Z.l)).length=(nd is Z.l).length:=by unfold ids;rw [List.length_map]
 have t1:True:=trivial
 have t2:True:=trivial
 have t3:True:=trivial
 by_cases hn:nd is Z.l= []
 · obtain⟨e1,e2,e3⟩:=Zj7 hn
   have hE:Hid (mor is Z.l=false∧bsS is Z.l= []∧frS (bsS is Z.l) Z.l=false):=⟨e1,e2,e3⟩
   rw [hn]at hN
   have hN':Hid (∀ (u:World) (hu:Below w.heap.size w u),Calls Tryz.prog 146 #[.pointer (some ⟨g,0,none⟩), .slice s.a s.n s.c] u fun e w'=>∃ v,e= .returned v∧OwV w' v (ids [])∧New u.heap.size v∧Below u.heap.size u w'):=hN
   clear hN e1 e2 e3 hn hidl hwf hwf2
   go_enter Tryz.func96,Tryz.ntmps96
   go_wp2_with (first
    | (clear t1;refine Z66 (by rfl) (by rfl) ?_;intro g1 w1 a1 a2 r1 b1)
    | (go_at_call 146;refine(hN'.out _ b1).mono ?_;rintro e w2 ⟨v2,rfl,o2,n2,b2⟩;clear hN'
       obtain⟨xa,xc,rfl⟩:=OwV.zero o2
       replace r1:=r1.later b2)
    | (clear t2;refine Zkx (by rfl) (by rfl) ?_)
    | (clear t3;refine Z4m (by rfl) _ _ (by rfl) g1 (by rfl) (.slice none 0 0) rfl false (by rfl) _ r1 rfl ?_;intro w3 r3 s3))
   refine bodyPost_ret (Zc5 Z9v rfl rfl rfl r3 rfl) rfl ?_
   rw [hE.out.1,hE.out.2.2,hE.out.2.1]
   exact⟨_,rfl,OwV.nil _,(fun r e=>by cases e),((Stp.of_below (Z01 b1 b2 (Nat.le_refl _)) (fun _=>False)).next s3 (fun x e=> .inr (by omega))).below (Nat.le_refl _) (fun x e=>e.elim)⟩
 · have hE:Hid (mor is Z.l=true):=Zos hn
   have hne:¬((ids (nd is Z.l)).length:Int)=0:=by
    rw [hidl]
    intro e
    exact hn (List.eq_nil_of_length_eq_zero (by omega))
   have hne':Hid (¬((ids (nd is Z.l)).length:Int)=0):=hne
   have hD:=fun(u:World) (hu:Below w.heap.size w u) (v:Sv) (hv:InsS u v (ids (nd is Z.l)))=>Zob (H.later hu) hnl (is:=is) hv
   have hA:=fun(u:World) (hu:Below w.heap.size w u) (v:Sv) (hv:InsS u v (bsS is Z.l))=>Zhv (H.later hu) hnl hv
   generalize frS (bsS is Z.l) Z.l=fr at *
   generalize bsS is Z.l=L at *
   generalize ids (nd is Z.l)=I at *
   clear hn hidl hne
   have hN':Hid (∀ (u:World) (hu:Below w.heap.size w u),Calls Tryz.prog 146 #[.pointer (some ⟨g,0,none⟩), .slice s.a s.n s.c] u fun e w'=>∃ v,e= .returned v∧OwV w' v I∧New u.heap.size v∧Below u.heap.size u w'):=hN
   clear hN
   go_enter Tryz.func96,Tryz.ntmps96
   go_wp2_with (first
    | (clear t1;refine Z66 (by rfl) (by rfl) ?_;intro g1 w1 a1 a2 r1 b1)
    | (go_at_call 146;refine(hN'.out _ b1).mono ?_;rintro e w2 ⟨v2,rfl,o2,n2,b2⟩;clear hN'
       obtain⟨⟨sa,sn,sc⟩,e2,e3,i2, -⟩:=o2.ins hwf n2
       subst e2
       have hsn:¬(sn:Int)=0:=by simp only at e3;rw [e3];exact hne'.out
       clear e3
       have B2:=Z01 b1 b2 (Nat.le_refl _)
       replace r1:=r1.later b2)
    | (go_at_call 147;refine(hD _ B2 ⟨sa,sn,sc⟩ i2).mono ?_;rintro e w3 ⟨v3,rfl,o3,n3,b3⟩;clear hD
       obtain⟨⟨ta,tn,tc⟩,e4, -,i3, -⟩:=o3.ins hwf2 n3
       subst e4
       have B3:=Z01 B2 b3 (Nat.le_refl _)
       replace r1:=r1.later b3)
    | (go_at_call 148;refine(hA _ B3 ⟨ta,tn,tc⟩ i3).mono ?_;rintro e w4 ⟨rfl,b4⟩;clear hA
       replace r1:=r1.later b4)
    | (clear t2;refine Zky (by rfl) _ _ (by rfl) ⟨ta,tn,tc⟩ (by rfl) fr (by rfl) ?_)
    | (clear t3;refine Z4m (by rfl) _ _ (by rfl) g1 (by rfl) (.slice ta tn tc) rfl fr (by rfl) _ r1 rfl ?_;intro w5 r5 s5))
   refine bodyPost_ret (Zc5 Z9v rfl rfl rfl r5 rfl) rfl ?_
   rw [hE.out]
   have z1:=r1.lt
   have z2:=B2.size
   have z3:=b2.size
   refine⟨_,rfl,(o3.later b4).step s5 (fun r hr e=>by have:=n3 r hr;omega),fun r hr=>by have:=n3 r hr;omega,((Stp.of_below (Z01 B3 b4 (Nat.le_refl _)) (fun _=>False)).next s5 (fun x e=> .inr (by omega))).below (Nat.le_refl _) (fun x e=>e.elim)⟩
theorem Zlk {Z:GZ} (hs:Rise Z.l) {n:Nat} (h:∀ p ∈ Z.l,p.needs.length≤n) (A:List Int):∀ p ∈ (Z.cr A).l,p.needs.length≤n:=by
 rw [(Z7p A Z hs).1]
 intro p hp
 obtain⟨q,h1,h2⟩:=Z8y.1 hp
 rw [h2]
 split
 · exact h q h1
 · exact h q h1
theorem Zo4 {Z:GZ} (hs:Rise Z.l) (A:List Int):(Z.car A).l.length≤Z.l.length:=by
 rw [(Zi6 Z hs A).1];exact List.length_filter_le _ _
theorem Znz {Z:GZ} {t:Int} (h:Z.ok t) (is:List Int):(bsS is Z.l).length≤Z.l.length:=by
 have h2:(bsS is Z.l).length≤(secs Z.l).length:=List.length_filter_le _ _
 have h4:=Z8s (secs Z.l) (Z.l.map (·.at')) (Z9o (Zbm _)) (fun x hx=>by
  have:=Z6l.1 hx
  obtain⟨y,hy⟩:=List.exists_mem_of_ne_nil _ this
  obtain⟨p,q1,q2,q3,_⟩:=Z2b.1 hy
  exact List.mem_map.2 ⟨p,q1,q3⟩)
 rw [List.length_map]at h4
 omega
end Go.Proofs.YtogdffonjhghcaaGreatDoor
