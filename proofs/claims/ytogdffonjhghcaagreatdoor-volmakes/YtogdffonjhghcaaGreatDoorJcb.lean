/-
  Texts of my own, joined: no statement is proved here.
-/
import Derived.Test.YtogdffonjhghcaaGreatDoorJbx
import Derived.Deep.Matrix
import Derived.OpenShut
import Derived.Test.YtogdffonjhghcaaGreatDoorJby
set_option linter.unusedSimpArgs false
set_option linter.unusedVariables false
namespace Go.Proofs.YtogdffonjhghcaaGreatDoor
open Go.ChangeShapes Go.WideShapes Go.ChangeAt Go.RowKit
section
variable {u : World} {A : VA} {V : VZ} {U E F T X : Nat → Prop} {t k : Nat}
theorem Zqq (V:VZ) (x:Int):V.grp x < 8∧((V.grp x:Nat):Int)=V.s.pg x:=by
 have h:0≤V.s.pg x∧V.s.pg x < 8:=by
  by_cases hx:V.s.hasW x
  · by_cases h2:2≤x
    · obtain⟨h1,h3,h4,h5,h6,h7⟩:=V.s.wF hx h2
      obtain⟨_,g8,_⟩:=h1
      omega
    · unfold Gm.pg;rw [if_pos hx,if_pos (by omega)];omega
  · unfold Gm.pg;rw [if_neg hx];omega
 unfold VZ.grp
 omega
theorem Zkl (H:Vx u A V U E F) (ok:VOk t k V) (ht:t≤9000) (n:Nat) (hn:n < 8):
 Calls Tryz.prog 93 #[.pointer (some ⟨A.w,0,none⟩), .int .i64 (n:Int)] u fun e w'=>e= .returned (.int .i64 (V.mrkE n))∧Vx w' A (V.mrk n) U E F∧Stp (fun x=>x=A.w∨U x) u w':=by
 obtain⟨e,h1,h2⟩:=H.p
 refine (Z8p A.w n V.w (some A.s) V.p u H.ww h1 H.tb (ok.c.okk (k:=3) (by omega) e) hn (fun h=>by injection h with h;exact H.uw.1 (h▸h2)) (fun y hy=>by
  have:y ∈ [A.s]:=hy
  rw [List.mem_singleton]at this;subst this;exact H.ca.lt _ h2)).mono ?_
 rintro e w' ⟨rfl,k1,k2,k3⟩
 obtain⟨h3,h4⟩:=H.ofW k1 k2 k3
 exact⟨rfl,h3,h4⟩
theorem Zrp {w:World} {g:Nat} {Z:GZ} {E F X:Nat→Prop} (H:Gh w g Z E F) (p:Pt) (d n:Sv) (hp:p.wfp) (hpm:PtM w X p d n) (hX:∀ x,X x→¬F x) (hlt:Z.last < 2000) (hd:p.data.length≤100000) (hn:p.needs.length≤100000):
 Calls Tryz.prog 92 #[.pointer (some ⟨g,0,none⟩), .agg (p.cs d n).toArray] w fun e w'=>e= .returned (.tuple #[.int .i64 (Z.addN p), .int .i64 (Z.addE p)])∧∃ E' F',Gh w' g (Z.add p) E' F'∧Stp F w w'∧Grew F F' w w'∧Grew E E' w w':=by
 obtain⟨mp,mw,f,fw,hg⟩:=H
 exact Z5m hg p d n hp hpm hX hlt hd hn
set_option maxRecDepth 100000 in
set_option maxHeartbeats 4000000 in
theorem Zhp (H:Vx u A V U E F) (ok:VOk t k V) (ht:t≤8990) (hk:k < 2000) (hT:∀ x,T x↔Vt A U E F x) (p:Pt) (d n:Sv) (hp:p.wfp) (hpm:PtM u X p d n) (hX:∀ x,X x→¬F x) (hd:p.data.length≤100000) (hn:p.needs.length≤6):
 Calls Tryz.prog 28 #[.pointer (some ⟨A.v,0,none⟩), .agg (p.cs d n).toArray] u fun e w'=>e= .returned (.tuple #[.int .i64 (V.patN p), .int .i64 (V.patE p)])∧VG A (V.pat p) T u w':=by
 have hGp:=fun w' (b:Below u.heap.size u w')=>Zho (H.later b) p.at'
 obtain⟨g8,gI⟩:=Zqq V p.at'
 have hla:=ok.la
 have hAdd:=fun w' (b:Below u.heap.size u w')=>Zrp (H.later b).gh p d n hp (hpm.later b) hX (by omega) hd (by omega)
 rw [← gI]at hGp
 have hE1:V.hasG p.at'=false→V.patE p=2∧V.patN p=0∧V.pat p=V:=fun h=>by
  have e:V.patE p=2:=by unfold VZ.patE;rw [h];rfl
  refine⟨e,?_,?_⟩
  · unfold VZ.patN;rw [e];rfl
  · unfold VZ.pat;rw [h];rfl
 have hE2:V.hasG p.at'=true→V.g.addOk p=false→V.patE p=2∧V.patN p=0∧V.pat p=V∧V.g.addE p=2∧V.g.add p=V.g:=fun h h2=>by
  have e:V.patE p=2:=by unfold VZ.patE;rw [h,h2];rfl
  refine⟨e,?_,?_,?_,?_⟩
  · unfold VZ.patN;rw [e];rfl
  · unfold VZ.pat;rw [h,h2];rfl
  · unfold GZ.addE;rw [h2];rfl
  · unfold GZ.add;rw [h2];rfl
 have hE3:V.hasG p.at'=true→V.g.addOk p=true→V.patE p=V.mrkE (V.grp p.at')∧V.patN p=(if V.mrkE (V.grp p.at')=0 then V.g.last+1 else 0)∧V.pat p= { V with g:=V.g.add p}.mrk (V.grp p.at')∧V.g.addE p=0∧V.g.addN p=V.g.last+1:=fun h h2=>by
  have e:V.patE p=V.mrkE (V.grp p.at'):=by unfold VZ.patE;rw [h,h2];rfl
  refine⟨e,?_,?_,?_,?_⟩
  · unfold VZ.patN;rw [e]
  · unfold VZ.pat;rw [h,h2];rfl
  · unfold GZ.addE;rw [h2];rfl
  · unfold GZ.addN;rw [h2];rfl
 have hok2:VOk t (k+1) { V with g:=V.g.add p} :=ok.add p hn
 have hlt:=H.lt
 generalize hm:V.grp p.at'=m at *
 clear gI hm
 have hR:∀ (w2 w3:World) (E' F':Nat→Prop),Vx w2 A { V with g:=V.g.add p} U E' F'→Stp T u w2→(∀ x,Vt A U E' F' x→T x∨u.heap.size≤x)→Vx w3 A ({ V with g:=V.g.add p}.mrk m) U E' F'→Stp (fun x=>x=A.w∨U x) w2 w3→VG A ({ V with g:=V.g.add p}.mrk m) T u w3:=fun w2 w3 E' F' h2 s2 g2 h3 s3=>
  VG.is h3 (s2.next s3 (fun x hx=> .inl ((hT x).2 (by rcases hx with e | e;subst e;unfold Vt;simp;exact .inl e)))) g2
 cases hg:V.hasG p.at'
 · obtain⟨e1,e2,e3⟩:=hE1 hg
   rw [e1,e2,e3]
   rw [hg]at hGp
   clear e1 e2 e3 hE1 hE2 hE3 hAdd hR hok2
   go_enter Tryz.func28,Tryz.ntmps28
   go_wp2_with (first
    | (refine Z0g (by rfl) _ (by rfl) p d n (by rfl) ?_;intro g1 w1 a1 z1 r1 b1;have c1:=r1.cell 1 _ rfl)
    | (go_at_call 91;refine(hGp _ b1).mono ?_;rintro e w2 ⟨rfl,b2⟩))
   go_returns
   exact⟨rfl,VG.is (H.later (Z01 b1 b2 (Nat.le_refl _))) (Stp.of_below (Z01 b1 b2 (Nat.le_refl _)) T) (fun x hx=> .inl ((hT x).2 hx))⟩
 · rw [hg]at hGp
   have hH:Hid (V.g.addE p=0→V.g.addOk p=true):=fun h=>by
    unfold GZ.addE at h
    cases ha:V.g.addOk p
    · rw [ha]at h;cases h
    · rfl
   have hH2:Hid (V.g.addE p≠0→V.g.addOk p=false):=fun h=>by
    unfold GZ.addE at h
    cases ha:V.g.addOk p
    · rfl
    · rw [ha]at h;exact absurd rfl h
   have hE2':Hid (V.g.addOk p=false→V.patE p=2∧V.patN p=0∧V.pat p=V∧V.g.addE p=2∧V.g.add p=V.g):=hE2 hg
   have hE3':Hid (V.g.addOk p=true→V.patE p=V.mrkE m∧V.patN p=(if V.mrkE m=0 then V.g.last+1 else 0)∧V.pat p= { V with g:=V.g.add p}.mrk m∧V.g.addE p=0∧V.g.addN p=V.g.last+1):=hE3 hg
   have hok':Hid (VOk t (k+1) { V with g:=V.g.add p}):=hok2
   have hadd0:Hid (V.g.addE p=V.g.addE p∧V.g.addN p=V.g.addN p):=⟨rfl,rfl⟩
   clear hE1 hE2 hE3 hok2 hadd0
   obtain⟨e1,he1⟩:∃ e1,Hid (V.g.addE p=e1):=⟨_,rfl⟩
   obtain⟨N0,hN0⟩:∃ e1,Hid (V.g.addN p=e1):=⟨_,rfl⟩
   rw [he1.out,hN0.out]at hAdd
   obtain⟨rN,hrN⟩:∃ r,Hid (V.patN p=r):=⟨_,rfl⟩
   obtain⟨rE,hrE⟩:∃ r,Hid (V.patE p=r):=⟨_,rfl⟩
   rw [hrN.out,hrE.out]
   go_enter Tryz.func28,Tryz.ntmps28
   go_wp2_with (first
    | (refine Z0g (by rfl) _ (by rfl) p d n (by rfl) ?_;intro g1 w1 a1 z1 r1 b1;have c1:=r1.cell 1 _ rfl)
    | (go_at_call 91;refine(hGp _ b1).mono ?_;rintro e w2 ⟨rfl,b2⟩))
   have B2:=Z01 b1 b2 (Nat.le_refl _)
   have H2:=H.later B2
   have r2:=r1.step (Stp.of_below b2 (fun _=>False)) id
   have hg1:¬F g1:=fun hf=>by have:=H.gh.lt.1 g1 hf;omega
   clear hGp c1 r1 b1 b2
   refine wp_region_held_drew (S:=fun x=>Stp F w2 x) (by kernel_rfl) (Stp.refl _ _).drew (fun hHeld=>?_)
   refine tl 0 (.pointer (some ⟨A.v,0,none⟩)) rfl ?_
   try simp only [z]
   refine tl 1 (.pointer (some ⟨A.v,0,none⟩)) rfl ?_
   try simp only [z]
   refine tl 2 (.pointer (some ⟨A.v,1,none⟩)) rfl ?_
   try simp only [z]
   refine tl 3 (.pointer (some ⟨A.v,1,none⟩)) rfl ?_
   try simp only [z]
   refine tl 4 (.pointer (some ⟨A.g,0,none⟩)) rfl ?_ (fun u hu=>by have x1:=(H2.c.step hu H2.uv.2.2.1).cell 1 _ rfl;go_simp)
   try simp only [z]
   refine tm 5 (.agg (p.cs d n).toArray) rfl
    (Z0w (by rfl) _ (by rfl) g1 (by rfl) p d n (fun x hx=>r2.step hx hg1)) ?_
   try simp only [z]
   refine rd 6 rfl (fun K hK=>?_)
   go_simp
   refine(hAdd _ (Z01 B2 (Below.refl _ _).drew (Nat.le_refl _))).mono ?_
   rintro e v3 ⟨rfl,E3,F3,q1,q2,q3,q4⟩
   try go_wp2_with fail
   refine hK.out _ _ ((Stp.refl F w2).drew.trans q2) (fun hHeld=>?_)
   clear hK K
   try simp only [z]
   refine tl 7 (.tuple #[.int .i64 N0, .int .i64 e1]) rfl ?_
   try simp only [z]
   refine tl 8 (.int .i64 N0) rfl ?_
   try simp only [z]
   refine tl 9 (.int .i64 e1) rfl ?_
   try simp only [z]
   refine tl 10 (.int .i64 N0) rfl ?_
   try simp only [z]
   refine tl 11 (.int .i64 e1) rfl ?_
   try simp only [z]
   refine wpAnyH_done (by kernel_rfl) ?_ _
   have H3:Vx v3 A { V with g:=V.g.add p} U E3 F3:=(H2.later (Below.refl _ _).drew).ofG q1 q2 q4 q3
   have S3:Stp T u v3:=(Stp.of_below (Z01 B2 (Below.refl _ _).drew (Nat.le_refl _)) T).next q2 (fun x hx=> .inl ((hT x).2 (.inr (.inr (.inl hx)))))
   have g3:∀ x,Vt A U E3 F3 x→T x∨u.heap.size≤x:=Vt.more hT (fun x hx=> .inl hx) (fun x hx=>by rcases q4 x hx with e | e;exact .inl e;exact .inr (by have:=B2.size;have:w2.drew.heap.size=w2.heap.size:=rfl;omega)) (fun x hx=>by rcases q3 x hx with e | e;exact .inl e;exact .inr (by have:=B2.size;have:w2.drew.heap.size=w2.heap.size:=rfl;omega))
   clear hAdd q1 q2 q3 q4 r2 H2 hHeld
   by_cases h0:e1=0
   · subst h0
     obtain⟨f1,f2,f3,f4,f5⟩:=hE3'.out (hH.out he1.out)
     have hM:=Zkl H3 hok'.out (by omega) m g8
     have y3:=H3.cells.2.2.2.1
     have hrr:Hid (rE=V.mrkE m∧rN=(if V.mrkE m=0 then V.g.last+1 else 0)∧N0=V.g.last+1∧V.pat p= { V with g:=V.g.add p}.mrk m):=⟨by rw [← hrE.out,f1],by rw [← hrN.out,f2],by rw [← hN0.out,f5],f3⟩
     have hmE:({ V with g:=V.g.add p} :VZ).mrkE m=V.mrkE m:=rfl
     rw [hmE]at hM
     obtain⟨mE,hmE'⟩:∃ r,Hid (V.mrkE m=r):=⟨_,rfl⟩
     rw [hmE'.out]at hM
     clear f1 f2 f3 f4 f5 hmE
     by_cases hm0:mE=0
     · subst hm0
       go_wp2_with (first
        | (go_at_call 93;refine hM.mono ?_;rintro e w4 ⟨rfl,H4,s4⟩;clear hM))
       go_returns
       obtain⟨p1,p2,p3,p4⟩:=hrr.out
       exact⟨by rw [p1,p2,p3,hmE'.out];rfl,by rw [p4];exact hR _ _ _ _ H3 S3 g3 H4 s4⟩
     · have hd0:¬mE=0:=hm0
       go_wp2_with (first
        | (go_at_call 93;refine hM.mono ?_;rintro e w4 ⟨rfl,H4,s4⟩;clear hM))
       go_returns
       obtain⟨p1,p2,p3,p4⟩:=hrr.out
       exact⟨by rw [p1,p2,hmE'.out,if_neg hm0];rfl,by rw [p4];exact hR _ _ _ _ H3 S3 g3 H4 s4⟩
   · obtain⟨f1,f2,f3,f4,f5⟩:=hE2'.out (hH2.out (by rw [he1.out];exact h0))
     have hrr:Hid (rE=2∧rN=0∧e1=2∧V.pat p=V∧V.g.add p=V.g):=⟨by rw [← hrE.out,f1],by rw [← hrN.out,f2],by rw [← he1.out,f4],f3,f5⟩
     clear f1 f2 f3 f4 f5
     go_wp2_with fail
     go_returns
     obtain⟨p1,p2,p3,p4,p5⟩:=hrr.out
     refine⟨by rw [p1,p2,p3];rfl,?_⟩
     rw [p4]
     rw [p5]at H3
     exact VG.is H3 S3 g3
end
set_option maxRecDepth 1000000
def wG:Gm:=⟨1,1,6⟩
def wD:DS:=(DS.new 11).load (blkL wG 11)
def wP:PS:=PS.fresh.turn
def wX:WS:=WS.turn ⟨0,0,0⟩ 0 PS.fresh
def wV0:VZ:=VZ.new wD wP wX 4
def wPt:Pt:=⟨0,6,0, [9],0, [],0,0,false⟩
def wV1:VZ:=wV0.pat wPt
def wV2:VZ:=wV1.look 6
theorem Zrn:fdE (shw wD)=0:=by decide+kernel
theorem w_e1:wV0.patE wPt=0:=by decide+kernel
theorem w_n1:wV0.patN wPt=1:=by decide+kernel
theorem w_e2:wV1.nowE 6=0:=by decide+kernel
theorem w_b2:((wV1.nowB 6).l.getD 0 0).toNat=9:=by decide+kernel
def wL:List Int:=bsS [1] wV2.g.l
def wF:Bool:=frS wL wV2.g.l
def wV3:VZ:=(wV2.cary wL wF).2
theorem w_m2:mor [1] wV2.g.l=true:=by decide+kernel
theorem w_c3:(wV2.cary wL wF).1=0:=by decide+kernel
theorem w_m3:mor [1] wV3.g.l=false:=by decide+kernel
theorem w_l2:wV2.g.l.length≤1:=by decide+kernel
theorem w_n2:(nd [1] wV2.g.l).length≤1:=by decide+kernel
theorem w_ll:wL.length≤1:=by decide+kernel
theorem w_r3:VZ.stlF [1] 1 wV2=some (0,wV3):=by
 unfold VZ.stlF
 rw [if_pos w_m2]
 show(if (wV2.cary wL wF).1=0 then VZ.stlF [1] 0 wV3 else _)=_
 rw [if_pos w_c3]
 unfold VZ.stlF
 rw [w_m3];rfl
theorem w_d3:((wV3.c.d.shown 6).l.getD 0 0).toNat=9:=by decide+kernel
theorem w_w3:wV3.w.says.testBit 0=true:=by decide+kernel
theorem w_g3:wV3.g.l= []:=by
 have:wV3.g.l.isEmpty=true:=by decide+kernel
 exact List.isEmpty_iff.1 this
theorem w_e4:wV3.tnE 0=0:=by decide+kernel
theorem w_w4:(wV3.tn 0).w.says.testBit 0=false:=by decide+kernel
theorem Zse:wG.total=((11:Nat):Int):=by decide+kernel
theorem Zsd:VOk 3 0 wV0:=by
 refine⟨CZ.new_ok (by omega) (by omega) (fun i=>?_) (fun s h=>?_),rfl,Int.le_refl _,(fun p hp=>by cases hp)⟩
 · exact Nat.zero_le _
 · injection h with h;subst h;exact Z7h Z8f
set_option maxRecDepth 100000
section
variable {ops : Array Oper} {rest : List Oper} {o : Oper} {a : Act} {w : World} {Q : Exit → Act → World → Prop}
theorem Zsb (x:Int) (w:World):(Instr.buildSlice 53 1 #[(0, .int .u8 x)]).run Tryz.prog w= .ok (.slice (some ⟨w.heap.size,0,none⟩) 1 1) (w.alloc (.cells #[.int .u8 x] 5)):=by kernel_rfl
theorem Zsc (x:Int) (w:World):(Instr.buildSlice 54 1 #[(0, .int .i64 x)]).run Tryz.prog w= .ok (.slice (some ⟨w.heap.size,0,none⟩) 1 1) (w.alloc (.cells #[.int .i64 x] 3)):=by kernel_rfl
theorem Znr (hw:Region.wanted o (yielded ops a.tmps)=true) (x:Operand) (ho:o.op= .buildSlice 53 1 #[(0,x)]) (z:Int) (hx:a.eval x= .int .u8 z) (hz:0≤z∧z≤255)
 (h:∀ g w',w.heap.size≤g→BsS w' ⟨some ⟨g,0,none⟩,1,1⟩ [z]→Below w.heap.size w w'→wpList Tryz.prog ops Q rest (a.put o.dst (.slice (some ⟨g,0,none⟩) 1 1)) w'):wpList Tryz.prog ops Q (o::rest) a w:=by
 refine Z09 hw _ _ ?_ (h w.heap.size (w.alloc (.cells #[.int .u8 z] 5)) (Nat.le_refl _) ?_ ((Below.refl _ _).alloc (Nat.le_refl _) _))
 · simp only [execOp,ho,Sem.run_bind,List.map_toArray,List.map_cons,List.map_nil,hx,Zsb];rfl
 · exact ⟨rfl,Nat.le_refl _,by show(1:Nat)≤maxLen;decide,(fun e=>by cases e),(fun y hy=>by simp at hy;subst hy;exact hz),fun _=>⟨w.heap.size,0,rfl,fun i hi=>by
    have:i=0:=by simp only at hi;omega
    subst this;simp⟩⟩
theorem Zns (hw:Region.wanted o (yielded ops a.tmps)=true) (x:Operand) (ho:o.op= .buildSlice 54 1 #[(0,x)]) (z:Int) (hx:a.eval x= .int .i64 z) (hz:wfi z)
 (h:∀ g w',w.heap.size≤g→InsS w' ⟨some ⟨g,0,none⟩,1,1⟩ [z]→Below w.heap.size w w'→wpList Tryz.prog ops Q rest (a.put o.dst (.slice (some ⟨g,0,none⟩) 1 1)) w'):wpList Tryz.prog ops Q (o::rest) a w:=by
 refine Z09 hw _ _ ?_ (h w.heap.size (w.alloc (.cells #[.int .i64 z] 3)) (Nat.le_refl _) ?_ ((Below.refl _ _).alloc (Nat.le_refl _) _))
 · simp only [execOp,ho,Sem.run_bind,List.map_toArray,List.map_cons,List.map_nil,hx,Zsc];rfl
 · exact ⟨⟨rfl,Nat.le_refl _,by show(1:Nat)≤maxLen;decide,(fun y hy=>by simp at hy;subst hy;exact hz),fun _=>⟨w.heap.size,0,rfl,fun i hi=>by
    have:i=0:=by simp only at hi;omega
    subst this;simp⟩⟩,(fun e=>by cases e)⟩
theorem Zsa (x:Int) (s:Sv) (w:World):(Instr.build 56 #[(1, .int .i64 x),(3, .slice s.a s.n s.c)]).run Tryz.prog w= .ok (.agg ((⟨0,x,0, [],0, [],0,0,false⟩:Pt).cs s Sv.nil).toArray) w:=by kernel_rfl
theorem Zkz (hw:Region.wanted o (yielded ops a.tmps)=true) (x y:Operand) (ho:o.op= .build 56 #[(1,x),(3,y)]) (z:Int) (g:Nat) (hx:a.eval x= .int .i64 z) (hy:a.eval y= .slice (some ⟨g,0,none⟩) 1 1)
 (h:wpList Tryz.prog ops Q rest (a.put o.dst (.agg ((⟨0,z,0, [],0, [],0,0,false⟩:Pt).cs ⟨some ⟨g,0,none⟩,1,1⟩ Sv.nil).toArray)) w):wpList Tryz.prog ops Q (o::rest) a w:=by
 refine Z09 hw _ _ ?_ h
 have:=Zsa z ⟨some ⟨g,0,none⟩,1,1⟩ w
 simp only at this
 simp only [execOp,ho,Sem.run_bind,List.map_toArray,List.map_cons,List.map_nil,hx,hy,this];rfl
end
set_option maxHeartbeats 4000000 in
theorem Zhg (u:World):Calls Tryz.prog 14 #[.int .u16 0] u fun e w'=>e= .returned (.agg #[.int .i64 1, .int .i64 1, .int .i64 6])∧Below u.heap.size u w':=by
 go_enter Tryz.func14,Tryz.ntmps14
 go_wp2_with (first
  | (refine Z0r (by rfl) (by rfl) ?_;intro g2 w2 a2 z2 r2 b2)
  | (refine Z0k (by rfl) _ _ (by rfl) g2 (by rfl) ⟨1,1,6⟩ (by rfl) _ r2 ?_;intro w3 r3 s3))
 refine bodyPost_ret (Znk Tryz.results14 rfl r3) rfl ⟨rfl,((Stp.of_below b2 (fun _=>False)).next s3 (fun x e=> .inr (by omega))).below (Nat.le_refl _) (fun x e=>e.elim)⟩
theorem Zpz:wPt.wfp:=⟨Z0z (by decide),Z0z (by decide),Z0z (by decide),Z0z (by decide),Z0z (by decide),Z0z (by decide)⟩
theorem Zdj {w:World} {g:Nat} {b:Blk} (h:Row w g b.l) (hb:(b.l.getD 0 0).toNat=9):w.cell? ⟨g,0,none⟩=some (.int .u8 9):=by
 have hl:=b.len
 have :=h.range 0 (.int .u8 ((b.l.getD 0 0).toNat:Int)) (by
  rw [List.getElem?_map,List.getElem?_eq_getElem (by omega),List.getD_eq_getElem?_getD,List.getElem?_eq_getElem (by omega)];rfl)
 rw [hb]at this;simpa using this
set_option maxHeartbeats 8000000 in
theorem Z46 (u:World) (ht:Tab u):Calls Tryz.prog 7 #[] u fun e w'=>e= .returned (.bool true)∧Below u.heap.size u w':=by
 have hSh:=Zhg u
 have hBl:=fun w=>Zi2 wG 11 Zse (by omega) w
 have hMd:∀ w b,Wd w b 11 11 (blkL wG 11)→Tab w→_:=fun w b h t=>Zcy h t 4 (by omega) (by omega)
 have hm0:Hid (mkE ((DS.new 11).load (blkL wG 11)) 4=0):=by show _=_;unfold mkE;rw [if_neg (by omega)];exact Zrn
 have e0:Hid (VZ.new ((DS.new 11).load (blkL wG 11)) PS.fresh.turn (WS.turn ⟨0,0,0⟩ 0 PS.fresh) (4:Int).toNat=wV0):=rfl
 have ok0:=Zsd
 have ok1:VOk 6 1 wV1:=ok0.pat wPt (by decide)
 have ok2:VOk 7 1 wV2:=ok1.look 6
 have t1:Hid True:=trivial
 have t2:Hid True:=trivial
 go_enter Tryz.func7,Tryz.ntmps7
 go_wp2_with (first
  | (go_at_call 14;refine hSh.mono ?_;rintro e w1 ⟨rfl,b1⟩;clear hSh)
  | (go_at_call 13;refine(hBl _).mono ?_;rintro e w2 ⟨gb,rfl,l2,r2,b2⟩;clear hBl
     have ht2:=ht.later (Z01 b1 b2 (Nat.le_refl _)))
  | (go_at_call 8;refine(hMd _ _ r2 ht2).mono ?_;rintro e w3 ⟨g6,sP,gD,gW,qq,ge,gx,pv,py,rfl,q3,b3,HM⟩;clear hMd
     obtain⟨-,A,U,E,F,gy,yc,gp,K,rfl,rfl,rfl,rfl,rfl,z3,WZ⟩:=Or.resolve_left HM (fun h=>h.1 hm0.out)
     have H3:=WZ.vx
     rw [e0.out]at H3
     have n3:=WZ.ng.1
     have f3:=WZ.lo.1
     have l3:=WZ.lo.2.2
     clear WZ HM
     have y3:=q3.cell 3 _ rfl
     have T3:=H3.lt)
  | (refine Znr (by rfl) _ (by rfl) 9 (by rfl) (by omega) ?_;intro g4 w4 l4 d4 b4
     have hPa:=Zhp (X:=fun x=>w3.heap.size≤x) (T:=Vt A U E F) (H3.later b4) ok0 (by omega) (by omega) (fun _=>Iff.rfl) wPt ⟨some ⟨g4,0,none⟩,1,1⟩ Sv.nil Zpz ⟨d4,InsS.nil w4,fun ad e h0=>by injection e with e;subst e;exact l4,InE.nil _⟩ (fun x hx hf=>by have:=T3 x (.inr (.inr (.inl hf)));omega) (by decide) (by decide)
     rw [w_n1,w_e1]at hPa)
  | (refine Zkz (by rfl) _ _ (by rfl) 6 g4 (by rfl) (by rfl) ?_)
  | (go_at_call 28;refine hPa.mono ?_;rintro e w5 ⟨rfl,k5⟩;clear hPa
     have k5':VG A wV1 (Vt A U E F) w4 w5:=k5
     obtain⟨T5,⟨U5,E5,F5,H5,hT5⟩,s5,g5⟩:=k5'
     have q5:=(q3.step (Stp.of_below b4 (fun _=>False)) id).step s5 n3
     have y5:=q5.cell 3 _ rfl
     have L5:∀ x,T5 x→x < w5.heap.size:=fun x hx=>H5.lt x ((hT5 x).1 hx)
     have n5:¬T5 g6:=fun e=>by rcases g5 _ e with e | e;exact n3 e;have:=q3.lt;have:=b4.size;omega
     have hNw:=Z93 H5 ok1 (by omega) 6 (Z0z (by omega)) hT5
     rw [w_e2]at hNw
     have hb2:=w_b2
     generalize wV1.nowB 6=B2 at hNw hb2
     have hB2:=B2.len
     clear y3 k5)
  | (go_at_call 17;refine hNw.mono ?_;rintro e w6 ⟨rfl,k6⟩;clear hNw
     have k6':VG A wV2 T5 w5 w6:=k6
     obtain⟨T6,⟨U6,E6,F6,H6,hT6⟩,s6,g66⟩:=k6'
     have q6:=q5.step s6 n5
     have L6:∀ x,T6 x→x < w6.heap.size:=fun x hx=>H6.lt x ((hT6 x).1 hx)
     have n6:¬T6 g6:=fun e=>by rcases g66 _ e with e | e;exact n5 e;have:=q5.lt;omega
     clear y5 k6)
  | (clear t1;refine Z03 64 64 arrB (by rfl) (by rfl) ?_;intro g7 w7 l7 z7 r7 b7)
  | (have _t:=t2;refine Z02 64 64 arrB (by rfl) _ _ (by rfl) g7 (by rfl) B2.l (by rfl) hB2 _ r7 (by simp) ?_;intro w8 r8 s8
     have H8:=(H6.later b7).step s8 (fun x hx e=>by subst e;have:=L6 _ ((hT6 _).2 hx);omega)
     have q8:=(q6.step (Stp.of_below b7 (fun _=>False)) id).step s8 (fun e=>by have:=q6.lt;omega)
     have y8:=q8.cell 3 _ rfl
     have k7:=b7.size
     have k8:=s8.size)
  | (refine Zns (by rfl) _ (by rfl) 1 (by rfl) (Z0z (by omega)) ?_;intro g9 w9 l9 i9 b9
     have H9:=H8.later b9
     have hSt:=Zev (B:=fun x=>w8.heap.size≤x) (T:=T6) H9 ok2 i9 (fun ad e h0=>by injection e with e;subst e;exact l9) (fun x hx e=>by have:=L6 x e;omega) (by decide) (M:=1) (N:=1) w_l2 (by omega) w_n2 (by omega) hT6
     rw [w_r3]at hSt)
  | (go_at_call 31;refine hSt.mono ?_;rintro e w10 ⟨r,hr,rfl,k10⟩;clear hSt
     injection hr with hr
     subst hr
     have k10':VG A wV3 T6 w9 w10:=k10
     obtain⟨T10,⟨U10,E10,F10,H10,hT10⟩,s10,g10⟩:=k10'
     have q10:=(q8.step (Stp.of_below b9 (fun _=>False)) id).step s10 n6
     have n7:¬T6 g7:=fun e=>by have:=L6 _ e;omega
     have r10:=(r8.later b9).step s10 n7
     have L10:∀ x,T10 x→x < w10.heap.size:=fun x hx=>H10.lt x ((hT10 x).1 hx)
     have y10:=q10.cell 1 _ rfl
     have hRd:=Zfl H10.ca 6 (Z0z (by omega))
     have hd3:=w_d3
     have k9:=b9.size
     generalize wV3.c.d.shown 6=B3 at hRd hd3
     generalize Z0l wV3.c.d 6=ce at hRd
     have hB3:=B3.len
     clear y8 k10)
  | (go_at_call 27;refine hRd.mono ?_;rintro e w11 ⟨rfl,b11⟩;clear hRd y10)
  | (clear t2;refine Z03 64 64 arrB (by rfl) (by rfl) ?_;intro g12 w12 l12 z12 r12 b12)
  | (refine Z02 64 64 arrB (by rfl) _ _ (by rfl) g12 (by rfl) B3.l (by rfl) hB3 _ r12 (by simp) ?_;intro w13 r13 s13
     have B13:Below w10.heap.size w10 w13:=((Stp.of_below (Z01 b11 b12 (Nat.le_refl _)) (fun _=>False)).next s13 (fun x e=> .inr (by have:=b11.size;omega))).below (Nat.le_refl _) (fun x e=>e.elim)
     have c7:=Zdj (r10.later B13) hb2
     have c12:=Zdj r13 hd3
     have H13:=H10.later B13
     have q13:=q10.step (Stp.of_below B13 (fun _=>False)) id
     have y2:=q13.cell 2 _ rfl
     have t3:Hid True:=trivial
     have hMk:=Z4f A.w 0 wV3.w (some A.s) w13 H13.ww (by omega)
     rw [w_w3]at hMk)
  | (go_at_call 34;clear t3;refine hMk.mono ?_;rintro e w14 ⟨rfl,b14⟩;clear hMk y2 c7 c12
     have H14:=H13.later b14
     have q14:=q13.step (Stp.of_below b14 (fun _=>False)) id
     have y3:=q14.cell 3 _ rfl
     have ok3:=ok2.cary H9.gh.ok.srt wL wF
     have hSy:=Zko (V:=wV3) H14 ok3 (by have:=w_ll;omega) w_g3
     rw [w_e4]at hSy)
  | (go_at_call 18;refine hSy.mono ?_;rintro e w15 ⟨rfl,H15,s15⟩;clear hSy y3
     have n15:¬(g6=A.w∨U10 g6):=fun e=>by
      have hh:T10 g6:=(hT10 g6).2 (by rcases e with e | e;subst e;unfold Vt;simp;exact .inl e)
      rcases g10 _ hh with e | e
      · exact n6 e
      · have:=q8.lt;omega
     have q15:=q14.step s15 n15
     have y15:=q15.cell 2 _ rfl
     have hMk:=Z4f A.w 0 (wV3.tn 0).w (some A.s) w15 H15.ww (by omega)
     rw [w_w4]at hMk)
  | (go_at_call 34;refine hMk.mono ?_;rintro e w16 ⟨rfl,b16⟩;clear hMk))
 go_returns
 refine⟨rfl,?_⟩
 have k0:=b1.size
 have k2:=b2.size
 have k3:=b3.size
 have k4:=b4.size
 have hz:∀ x,T10 x→x=0∨u.heap.size≤x:=fun x hx=>by
  rcases g10 x hx with h | h
  · rcases g66 x h with h | h
    · rcases g5 x h with h | h
      · rcases f3 x h with h | h
        · exact .inl h
        · exact .inr (by omega)
      · exact .inr (by omega)
    · have:=s5.size;exact .inr (by omega)
  · have:=s5.size;have:=s6.size;exact .inr (by omega)
 have z6:∀ x,T6 x→x=0∨u.heap.size≤x:=fun x h=>by
  rcases g66 x h with h | h
  · rcases g5 x h with h | h
    · rcases f3 x h with h | h
      · exact .inl h
      · exact .inr (by omega)
    · exact .inr (by omega)
  · have:=s5.size;exact .inr (by omega)
 have z5:∀ x,T5 x→x=0∨u.heap.size≤x:=fun x h=>by
  rcases g5 x h with h | h
  · rcases f3 x h with h | h
    · exact .inl h
    · exact .inr (by omega)
  · exact .inr (by omega)
 have R:Stp (fun x=>x=0∨u.heap.size≤x) u w15:=((((((((Stp.of_below (Z01 (Z01 (Z01 b1 b2 (Nat.le_refl _)) b3 (Nat.le_refl _)) b4 (Nat.le_refl _)) (fun x=>x=0∨u.heap.size≤x)).next s5 (fun x hx=> .inl (by rcases f3 x hx with h | h;exact .inl h;exact .inr (by omega)))).next s6 (fun x hx=> .inl (z5 x hx))).trans (Stp.of_below b7 _)).next s8 (fun x hx=> .inr (by subst hx;have:=s5.size;have:=s6.size;omega))).trans (Stp.of_below b9 _)).next s10 (fun x hx=> .inl (z6 x hx))).trans (Stp.of_below B13 _)).trans (Stp.of_below b14 _) |>.next s15 (fun x hx=> .inl (hz x ((hT10 x).2 (by rcases hx with e | e;subst e;unfold Vt;simp;exact .inl e))))
 have e15:w15.heap[0]? =u.heap[0]?:=by rw [H15.z0,z3];exact(Z01 b1 b2 (Nat.le_refl _)).block 0 ht.lt
 have B15:Below u.heap.size u w15:=⟨R.os,R.tape,R.output,R.size,fun k hk=>by
  by_cases h0:k=0
  · subst h0;exact e15
  · exact R.block k hk (fun e=>by rcases e with e | e;exact h0 e;omega)⟩
 exact Z01 B15 b16 (Nat.le_refl _)
end Go.Proofs.YtogdffonjhghcaaGreatDoor
set_option linter.unusedSimpArgs false
set_option linter.unusedVariables false
namespace Go.Proofs.YtogdffonjhghcaaGreatDoor
open Go.ChangeShapes Go.WideShapes Go.ChangeAt Go.RowKit
set_option maxRecDepth 100000
section
variable {H : Type} {enc : TypeId × Value → H} {w : World} {base : Nat} {spare : Nat → Bool} {held : Bool}
theorem Zeb {fuel:Nat} {cs:List Value} {x:DataW H×List MemPlace} (h:DataW.trod enc Tryz.prog w base spare held fuel 22 cs=some x):∃ a n c l,cs= [.slice a n c]∧BlsU w a n c l:=by
 rcases Deep.open_slice (e:=64) (by kernel_rfl) h with⟨hcs,_⟩ | ⟨a,len,cap,m,n,D,Pl,hcs,_,hl,hm,hmm,_,hx⟩
 · exact⟨_,_,_, [],hcs,BlsU.nilSlice w⟩
 · have c64:Tryz.prog.cellsOf 64=64:=by kernel_rfl
   have hlm:len≤m:=by rw [hmm];split<;>omega
   have each:∀ i,i < len→∃ y:Blk,∀ j v,y.cs[j]? =some v→w.cell? (a.add (i * 64+j))=some v:=fun i hi=>by
    obtain⟨cs',h1,h2⟩:=hx i (by omega)
    rw [c64]at h1
    obtain⟨y,e1⟩:=Zi5 h2
    obtain⟨_,hlen,hcell⟩:=World.cells?_some h1
    refine⟨y,fun j v hv=>?_⟩
    have hj:j < 64:=by have:=(List.getElem?_eq_some_iff.1 hv).1;rw [y.cs_len]at this;exact this
    have:=hcell j hj
    rw [Deep.add_add,← e1,hv]at this
    exact this
   refine⟨_,_,_,(List.range len).map fun i=>if hi:i < len then Classical.choose (each i hi)else Blk.zero,hcs,by simp,hl,hm,(fun e=>by cases e),fun hn=>?_⟩
   obtain⟨b,o,spot⟩:=a
   have hspot:spot=none:=by
    obtain⟨y,hy⟩:=each 0 hn
    have:=hy 0 _ (List.getElem?_eq_getElem (by rw [y.cs_len];omega))
    simpa [Addr.add]using World.cell?_spot this
   subst hspot
   refine⟨b,o,rfl,fun i hi=>?_⟩
   rw [List.getD_eq_getElem?_getD,List.getElem?_map,List.getElem?_range hi]
   simp only [Option.map_some,Option.getD_some,dif_pos hi]
   have hs:=Classical.choose_spec (each i hi)
   intro j v hv
   have:=hs j v hv
   rw [Addr.add_mid]at this
   rw [show o+i * 64+j=o+(i * 64+j) by omega];exact this
end
end Go.Proofs.YtogdffonjhghcaaGreatDoor
set_option linter.unusedSimpArgs false
set_option linter.unusedVariables false
namespace Go.Proofs.YtogdffonjhghcaaGreatDoor.volMakes
open Go.ChangeShapes Go.WideShapes Go.ChangeAt Go.RowKit
set_option maxRecDepth 100000
theorem Z9i (D:DS) (x:WS) (n:Nat) (h1:1≤n) (h2:n≤64) (hw:∀ i,(D.wt i).length=0):VOk 3 0 (VZ.new D PS.fresh.turn x n):=by
 refine⟨CZ.new_ok h1 h2 (fun i=>by rw [hw i];omega) (fun s h=>?_),rfl,Int.le_refl _,(fun p hp=>by cases hp)⟩
 injection h with h;subst h;exact Z7h Z8f
theorem Zon (N:Nat) (l:List Blk) (i:Int):(((DS.new N).load l).wt i).length=0:=by
 unfold DS.load
 split<;>rfl
theorem Zcx (N:Nat) (l:List Blk):((DS.new N).load l).n=N:=by unfold DS.load;split<;>rfl
theorem w0_b:(WS.turn ⟨0,0,0⟩ 0 PS.fresh).b < 256:=by decide+kernel
theorem w0_c:(WS.turn ⟨0,0,0⟩ 0 PS.fresh).c=sm (WS.turn ⟨0,0,0⟩ 0 PS.fresh).a (WS.turn ⟨0,0,0⟩ 0 PS.fresh).b:=by decide+kernel
set_option maxHeartbeats 8000000 in
theorem walk (a:Option Addr) (n c:Nat) (l:List Blk) (sz i kd:Int) (w:World) (h:BlsU w a n c l) (ws:(Lit.int .i64 sz).wf=true) (wi:(Lit.int .i64 i).wf=true) (wk:(Lit.int .i64 kd).wf=true) (T:∀ i,i < 3→w.cell? ⟨0,i,none⟩=some (.int .i64 ([1,0,2].getD i 0))):
 Calls Tryz.prog 3 #[.slice a n c, .int .i64 sz, .int .i64 i, .int .i64 kd] w fun e w'=>e= .returned (.bool true)∧Below w.heap.size w w':=by
 have ht:Tab w:=⟨T 0 (by decide),T 1 (by decide),T 2 (by decide)⟩
 clear T
 have hl:=h.len
 have hle:=h.le
 have hcap:=h.cap
 unfold maxLen at hcap
 obtain⟨i0,hi,hz0,hz1,hz2⟩:=info_parts Zj1
 obtain⟨m,hm,hm',hm2,hm3⟩:∃ m:Nat,min (n:Int) 40=(m:Int)∧m≤n∧m≤40∧(l.take m).length=m:=⟨min n 40,by omega,by omega,by omega,by rw [List.length_take];omega⟩
 have hm4:Hid ((l.take m).length=m):=hm3
 clear hm3
 have o0:(w.alloc (.cells #[] 64)).ownsRow w.heap.size 64 64 (.slice (some ⟨w.heap.size,0,none⟩) 0 0) 0 []:=World.ownsRow_made w #[] 0 (Nat.le_refl _) (Nat.zero_le _) rfl
 have B0:Below w.heap.size w (w.alloc (.cells #[] 64)):=(Below.refl _ w).alloc (Nat.le_refl _) _
 cases a with
 | none=>
   obtain rfl:=h.nil rfl
   obtain rfl:n=0:=by omega
   obtain rfl:m=0:=by omega
   go_enter Tryz.func3,Tryz.ntmps3
   go_wp2_with (first
    | (at_builtin;refine wpList_append_own_none rfl _ _ 22 rfl w.heap.size 64 i0 64 Zc8 hi _ 0 [] rfl o0 rfl ?_)
    | (go_at_call 7;refine(Z46 _ (ht.later B0)).mono ?_;rintro e w9 ⟨rfl,b9⟩))
   go_returns
   exact⟨rfl,Z01 B0 b9 (Nat.le_refl _)⟩
 | some x=>
   have hnw:=h.news m hm' (.cells #[] 64)
   have hfl:(Z0f (l.take m)).length=m * 64:=by rw [Z55,hm4.out]
   go_enter Tryz.func3,Tryz.ntmps3
   by_cases hm0:m=0
   · subst hm0
     go_wp2_with (first
      | (at_builtin;refine wpList_append_own_at _ rfl _ _ 22 rfl w.heap.size 64 i0 _ 64 64 Zc8 hi hz0 hz1 hz2 (by simp [Value.cells,Blk.cs_len]) (by decide) _ 0 [] rfl o0 x 0 c (Z0f (l.take 0)) rfl hfl hnw (Z71 _) (by unfold maxLen;omega) (by omega) (by simp) ?_
         intro v1 w1 h1 h2 h3 h4
         obtain⟨g1,c1,rfl,_⟩:=Z4v h1 (fun e=>by have:=(h3.1 e).1;cases this)
         have s1:Stp (fun x=>w.heap.size≤x) (w.alloc (.cells #[] 64)) w1:=Stp.of_grown h2 (fun x e=> .inl (by have e':some w.heap.size=some x:=e;injection e' with e';omega))
         have B1:Below w.heap.size w w1:=((Stp.of_below B0 (fun x=>w.heap.size≤x)).trans s1).below (Nat.le_refl _) (fun _ h=>h))
      | (go_at_call 7;refine(Z46 _ (ht.later B1)).mono ?_;rintro e w9 ⟨rfl,b9⟩))
     go_returns
     exact⟨rfl,Z01 B1 b9 (Nat.le_refl _)⟩
   · have hmz:¬(m:Int)=0:=by omega
     have hMd:∀ w1 g1 c1,Wd w1 g1 m c1 (l.take m)→Below w.heap.size w w1→_:=fun w1 g1 c1 hw b=>Zcy hw (ht.later b) sz (by omega) (by omega)
     have hdn:=Zcx m (l.take m)
     have hwt:=Zon m (l.take m)
     generalize (DS.new m).load (l.take m)=D at *
     go_wp2_with (first
      | (at_builtin;refine wpList_append_own_at _ rfl _ _ 22 rfl w.heap.size 64 i0 _ 64 64 Zc8 hi hz0 hz1 hz2 (by simp [Value.cells,Blk.cs_len]) (by decide) _ 0 [] rfl o0 x m c (Z0f (l.take m)) rfl hfl hnw (Z71 _) (by unfold maxLen;omega) (by omega) (by simp) ?_
         intro v1 w1 h1 h2 h3 h4
         obtain⟨g1,c1,rfl,_⟩:=Z4v h1 (fun e=>by have:=(h3.1 e).1;cases this)
         rw [Nat.zero_add,List.nil_append]at h1
         have s1:Stp (fun x=>w.heap.size≤x) (w.alloc (.cells #[] 64)) w1:=Stp.of_grown h2 (fun x e=> .inl (by have e':some w.heap.size=some x:=e;injection e' with e';omega))
         have B1:Below w.heap.size w w1:=((Stp.of_below B0 (fun x=>w.heap.size≤x)).trans s1).below (Nat.le_refl _) (fun _ h=>h)
         have r1:Wd w1 g1 m c1 (l.take m):=by
          have:=Wd.own (B:=w.heap.size) (w:=w1) (g:=g1) (c:=c1) (l:=l.take m) (by rw [hm4.out];exact h1)
          rw [hm4.out]at this;exact this
         clear h1 h2 h3 h4 s1)
      | (go_at_call 8;refine(hMd _ _ _ r1 B1).mono ?_;rintro e w2 ⟨g6,sP,gD,gW,q,gE,gX,pv,py,rfl,q3,b2,HM⟩;clear hMd
         have y2:=q3.cell 2 _ rfl))
     have hN1:=fun u=>Z4e (u:=u) (.pointer none) (.pointer (some ⟨gW,0,none⟩)) sz (.inl rfl)
     have t1:Hid True:=trivial
     rcases (show _∨_ from HM)with⟨hz,rfl,rfl,F,hdd⟩ | ⟨hz,A,U,E,F,gY,yc,gp,K,rfl,rfl,rfl,rfl,rfl,z3,WZ⟩
     · have hN2:=Ze2 hdd sz
       clear HM
       go_wp2_with (first
        | (clear t1;go_at_call 9;refine(hN1 _).mono ?_;rintro e w3 ⟨rfl,rfl⟩;clear hN1;have y1:=q3.cell 1 _ rfl)
        | (go_at_call 9;refine hN2.mono ?_;rintro e w4 ⟨rfl,b4⟩;clear hN2 y1 y2;have y7:=(q3.step (Stp.of_below b4 (fun _=>False)) id).cell 7 _ rfl
           have B4:=Z01 (Z01 B1 b2 (Nat.le_refl _)) b4 (Nat.le_refl _))
        | (go_at_call 7;refine(Z46 _ (ht.later B4)).mono ?_;rintro e w9 ⟨rfl,b9⟩))
       go_returns
       exact⟨rfl,Z01 B4 b9 (Nat.le_refl _)⟩
     · have hdd:∃ d p F G,DD w2 A.d (.pointer (some ⟨A.s,0,none⟩)) d p F G:=by
        obtain⟨mp,ov,f,E,F,G,H,_⟩:=WZ.vx.ca
        exact⟨_,_,F,G,H.dd⟩
       obtain⟨dd,dp,dF,dG,hdd⟩:=hdd
       have hN2:=Ze2 hdd sz
       have hsz:1≤sz.toNat∧sz.toNat≤64:=by
        by_cases e:sz < 1∨64 < sz
        · unfold mkE at hz;rw [if_pos e]at hz;cases hz
        · omega
       have ok:=Z9i D (WS.turn ⟨0,0,0⟩ 0 PS.fresh) sz.toNat hsz.1 hsz.2 hwt
       have I2:=WZ.wy z3 b2
       have hVn:(VZ.new D PS.fresh.turn (WS.turn ⟨0,0,0⟩ 0 PS.fresh) sz.toNat).c.d.n=m:=hdn
       have hVw:(VZ.new D PS.fresh.turn (WS.turn ⟨0,0,0⟩ 0 PS.fresh) sz.toNat).w=WS.turn ⟨0,0,0⟩ 0 PS.fresh:=rfl
       have hwb:=w0_b
       have hwc:=w0_c
       rw [← hVw]at hwb hwc
       generalize VZ.new D PS.fresh.turn (WS.turn ⟨0,0,0⟩ 0 PS.fresh) sz.toNat=V at *
       generalize Vt A U E F=T0 at *
       clear HM WZ hVw hz hdd
       have hLd:=fun u T (hI:Wy w1 u ⟨g6,gY,yc,gp,gX,gE,q,A⟩ V V.c T K)=>Zkk hI.vo ok (by omega) i kd wi
       have hRl:=fun u T (hI:Wy w1 u ⟨g6,gY,yc,gp,gX,gE,q,A⟩ (V.look i) V.c T K)=>Zhc hI.ry ok.c (by omega) i kd wi
       have hAl:=fun u T K (hI:Wy w1 u ⟨g6,gY,yc,gp,gX,gE,q,A⟩ (V.look i) (V.look i).c T K)=>Zhu hI (ok.look i) (by show(V.c.hold i).d.n≤2048;rw [Zff,hVn];omega) (by omega) hwb hwc
       obtain⟨e1,e2⟩:=ld0 I2.g0 i kd
       rw [e1,e2]at hLd
       generalize V.c.ldB i kd=L at *
       generalize V.c.ldE i kd=eL at *
       have hL:=L.len
       have qL:∀ w,(Op.equalIn 10000 41 (.agg L.cs.toArray) (.agg L.cs.toArray)).run Tryz.prog w= .ok true w:=fun w=>by rw [eqL];simp
       have qM:∀ w,(Op.equalIn 10000 41 (.agg (Z00 L.l).toArray) (.agg (Z00 L.l).toArray)).run Tryz.prog w= .ok true w:=qL
       clear qL
       have gL:=Zco
       clear e1 e2
       go_wp2_with (first
        | (clear t1;go_at_call 9;refine(hN1 _).mono ?_;rintro e w3 ⟨rfl,rfl⟩;clear hN1;have y1:=q3.cell 1 _ rfl)
        | (go_at_call 9;refine hN2.mono ?_;rintro e w4 ⟨rfl,b4⟩;clear hN2 y1 y2
           have I4:=I2.later b4
           have y7:=I4.cs.cell 7 _ rfl
           have y3:=I4.cs.cell 3 _ rfl)
        | (go_at_call 10;refine(hLd _ _ I4).mono ?_;rintro e w5 ⟨rfl,k5⟩;clear hLd y3 y7
           obtain⟨T5,I5,f5⟩:=I4.ofV k5 rfl rfl rfl
           have a5:Hid True:=trivial)
        | (clear a5;refine Z03 41 54 arrL (by rfl) (by rfl) ?_;intro gA w6 l6 z6 rA b6;have a6:Hid True:=trivial)
        | (clear a6;refine Z02 41 54 arrL (by rfl) _ _ (by rfl) gA (by rfl) L.l (by rfl) hL _ rA (by simp) ?_;intro w7 rA7 s7
           have I7:=I5.own b6 l6 s7
           have y7:=I7.cs.cell 7 _ rfl
           have hl7:=I5.lt)
        | (go_at_call 11;refine(hRl _ _ I7).mono ?_;rintro e w8 ⟨rfl,k8⟩;clear hRl y7
           have s8:=k8.stp
           obtain⟨K8,I8⟩:=I7.ofR k8
           have a8:Hid True:=trivial)
        | (clear a8;refine Z03 41 54 arrL (by rfl) (by rfl) ?_;intro gB w9 l9 z9 rB b9;have a9:Hid True:=trivial)
        | (clear a9;refine Z02 41 54 arrL (by rfl) _ _ (by rfl) gB (by rfl) L.l (by rfl) hL _ rB (by simp) ?_;intro w10 rB10 s10
           have I10:=I8.own b9 l9 s10
           have rA10:=((rA7.step s8 (fun e=>by have:=hl7.2.2 gA (.inl e);omega)).later b9).step s10 (fun e=>by have:=s8.size;have:=s7.size;omega)
           have hA10:=hAl _ _ _ I10
           have a10:Hid True:=trivial)
        | (clear a10;refine Z04 41 54 arrL (by rfl) _ (by rfl) gA (by rfl) _ rA10 hL ?_;have a11:Hid True:=trivial)
        | (clear a11;refine Z04 41 54 arrL (by rfl) _ (by rfl) gB (by rfl) _ rB10 hL ?_)
        | (go_at_call 12;refine hA10.mono ?_;rintro e w11 ⟨rfl,b11⟩;clear hA10;have B11:=B1.trans (b11.mono B1.size))
        | (go_at_call 7;refine(Z46 _ (ht.later B11)).mono ?_;rintro e w12 ⟨rfl,b12⟩))
       go_returns
       exact⟨rfl,Z01 B11 b12 (Nat.le_refl _)⟩
end Go.Proofs.YtogdffonjhghcaaGreatDoor.volMakes
