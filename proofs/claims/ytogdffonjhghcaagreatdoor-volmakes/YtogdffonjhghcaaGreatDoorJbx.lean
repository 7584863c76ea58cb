/-
  Texts of my own, joined: no statement is proved here.
-/
import Derived.Test.YtogdffonjhghcaaGreatDoorJbt
import Derived.Test.YtogdffonjhghcaaGreatDoorJbv
import Derived.Test.YtogdffonjhghcaaGreatDoorJbw
set_option linter.unusedSimpArgs false
set_option linter.unusedVariables false
namespace Go.Proofs.YtogdffonjhghcaaGreatDoor
open Go.ChangeShapes Go.WideShapes Go.ChangeAt Go.RowKit
theorem Zla {V:VZ} {f:Bool} :∀ {L:List Int} (y:Int),(V.brs f L).1=0→V.brs f (L++ [y])=((V.brs f L).2.brgE y f,(V.brs f L).2.brg y f):=by
 intro L
 induction L generalizing V with
 | nil=>
   intro y _
   show V.brs f [y]=(V.brgE y f,V.brg y f)
   unfold VZ.brs
   by_cases h:V.brgE y f=0
   · rw [if_pos h,h];rfl
   · rw [if_neg h]
 | cons i r ih=>
   intro y h
   have e:(i::r)++ [y]=i::(r++ [y]):=rfl
   rw [e]
   unfold VZ.brs at h ⊢
   by_cases hi:V.brgE i f=0
   · rw [if_pos hi]at h ⊢
     rw [if_pos hi]
     exact ih y h
   · rw [if_neg hi]at h
     exact absurd h hi
theorem Zlb {V:VZ} {f:Bool} :∀ {L:List Int} (B:List Int),(V.brs f L).1≠0→V.brs f (L++B)=V.brs f L:=by
 intro L
 induction L generalizing V with
 | nil=>intro B h;exact absurd rfl h
 | cons i r ih=>
   intro B h
   have e:(i::r)++B=i::(r++B):=rfl
   rw [e]
   unfold VZ.brs at h ⊢
   by_cases hi:V.brgE i f=0
   · rw [if_pos hi]at h ⊢
     rw [if_pos hi]
     exact ih B h
   · rw [if_neg hi,if_neg hi]
section
variable {ops : Array Oper} {rest : List Oper} {o : Oper} {a : Act} {w : World} {Q : Exit → Act → World → Prop}
theorem Zl1 (T:Nat) (hw:Region.wanted o (yielded ops a.tmps)=true) (x:Operand) (ho:o.op= .box T x) (p:Option Addr) (hx:a.eval x= .pointer p)
 (h:∀ g w',w.heap.size≤g→g < w'.heap.size→Cs w' g [.pointer p]→Below w.heap.size w w'→wpList Tryz.prog ops Q rest (a.put o.dst (.pointer (some ⟨g,0,none⟩))) w'):wpList Tryz.prog ops Q (o::rest) a w:=by
 refine Z09 hw _ _ ?_ (h w.heap.size (w.alloc (.cells #[.pointer p] T)) (Nat.le_refl _) (by simp) (Cs.made _ [.pointer p] _ (by intro v hv;simp at hv;subst hv;rfl)) ((Below.refl _ _).alloc (Nat.le_refl _) _))
 have :(Instr.box T (.pointer p)).run Tryz.prog w= .ok (.pointer (some ⟨w.heap.size,0,none⟩)) (w.alloc (.cells #[.pointer p] T)):=by
  simp [Instr.box,newVar,Value.cells,go_sem]
 simp only [execOp,ho,hx,Sem.run_bind,this];rfl
end
section
variable {u : World} {A : VA} {V : VZ} {U E F T B : Nat → Prop} {t k : Nat}
theorem Vx.own (H:Vx u A V U E F) {u':World} (k:Stp (fun x=>x=A.v) u u') (hc:Cs u' A.v (A.cs V.s)):Vx u' A V U E F:=
 ⟨hc,H.ca.step k (fun x hx e=>H.uv.1 (e▸hx)),H.ps,H.ww.stp k (fun e=>H.uv.2.2.2.1 e.symm),H.gh.stp k (fun x hx e=>H.uv.2.2.1 (e▸hx)) (fun x hx e=>H.uv.2.1 (e▸hx)),H.tb.stp k (fun e=>H.uv.2.2.2.2 e.symm),by rw [k.block 0 H.tb.lt (fun e=>H.uv.2.2.2.2 e.symm)];exact H.z0,H.so,H.f0,H.uv,H.uw,H.ue,H.uz⟩
set_option maxRecDepth 100000 in
set_option maxHeartbeats 2000000 in
theorem Z87 (H:Vx u A V U E F) (fv:Value):
 Calls Tryz.prog 80 #[.pointer (some ⟨A.v,0,none⟩),fv] u fun e w'=>e= .returned (.int .i64 0)∧Vx w' A V U E F∧Stp (fun x=>x=A.v) u w':=by
 have y7:=H.cells.2.2.2.2.2.2.2
 have f7:=H.c.frozen 7
 go_enter Tryz.func80,Tryz.ntmps80
 go_wp2
 refine wp_loop_rounds 1 ?_
 rw [rounds_succ]
 go_wp2
 go_returns
 have k:Stp (fun x=>x=A.v) u (u.setCell ⟨A.v,7,none⟩ (.slice none 0 0)):=(Stp.refl (fun x=>x=A.v) u).setCell (p:=⟨A.v,7,none⟩) (.inl rfl) _
 exact⟨rfl,H.own k (H.c.set 7 (.slice none 0 0) rfl),k⟩
theorem Z5h {w:World} {g:Nat} {Z:GZ} {E F:Nat→Prop} (H:Gh w g Z E F):
 Calls Tryz.prog 151 #[.pointer (some ⟨g,0,none⟩)] w fun e w'=>e= .returned (.int .i64 (Z.stlN fun _=>true))∧Gh w' g (Z.stl fun _=>true) E F∧Stp F w w':=by
 obtain⟨_,_,_,_,hg⟩:=H
 exact Zc0 hg
structure CyI (w3 wr:World) (A:VA) (V:VZ) (T:Nat→Prop) (L:List Int) (f:Bool) (j g2 g3:Nat) (cs3:List Value):Prop where
 ze:(V.brs f (L.take j)).1=0
 vg:VG A (V.brs f (L.take j)).2 T w3 wr
 c2:Cs wr g2 [.pointer (some ⟨A.v,0,none⟩)]
 c3:Cs wr g3 cs3
set_option maxRecDepth 100000 in
set_option maxHeartbeats 4000000 in
theorem Zhm (H:Vx u A V U E F) (ok:VOk t k V) {s:Sv} {L:List Int} (hs:InsS u s L) (he:InE B s) (hB:∀ x,B x→¬T x) (hL:t+3 * L.length≤8970) (f:Bool) (hT:∀ x,T x↔Vt A U E F x):
 Calls Tryz.prog 97 #[.pointer (some ⟨A.v,0,none⟩), .agg (btc (.slice s.a s.n s.c) f).toArray] u fun e w'=>e= .returned (.int .i64 (V.cary L f).1)∧VG A (V.cary L f).2 T u w':=by
 have hl:=hs.i.len
 have hrise:Rise V.g.l:=H.gh.ok.srt
 have hlt:∀ x,T x→x < u.heap.size:=fun x hx=>H.lt x ((hT x).1 hx)
 have hVo:Vo u A V T:=⟨U,E,F,H,hT⟩
 obtain⟨na,nn,nc⟩:=s
 have hokJ:∀ j,j≤L.length→VOk (t+3 * j) k (V.brs f (L.take j)).2∧Rise (V.brs f (L.take j)).2.g.l:=fun j hj=>by
  have:=VOk.brs f (L.take j) V t ok hrise
  rw [List.length_take,Nat.min_eq_left hj]at this;exact this
 obtain⟨rE,hrE⟩:∃ r,Hid ((V.cary L f).1=r):=⟨_,rfl⟩
 rw [hrE.out]
 go_enter Tryz.func97,Tryz.ntmps97
 go_wp2_with (first
  | (refine Zl1 _ (by rfl) _ (by rfl) _ (by rfl) ?_;intro g2 w2 a2 z2 r2 b2)
  | (refine Z2n 170 (by rfl) _ (by rfl) (btc (.slice na nn nc) f) (by rfl) (Zab rfl f) ?_;intro g3 w3 a3 z3 r3 b3;have c0:=r3.cell 0 _ rfl))
 have B3:=Z01 b2 b3 (Nat.le_refl _)
 have hs2:=b2.size
 have hs3:=b3.size
 have hVo3:=hVo.later B3
 have start:CyI w3 w3 A V T L f 0 g2 g3 (btc (.slice na nn nc) f):=⟨rfl,VG.refl hVo3,r2.step (Stp.of_below b3 (fun _=>False)) id,r3⟩
 have hs':=hs.later B3
 have nT2:∀ T':Nat→Prop,(∀ x,T' x→T x∨w3.heap.size≤x)→¬T' g2∧¬T' g3:=fun T' h=>⟨fun e=>by rcases h _ e with e | e;have:=hlt _ e;omega;omega,fun e=>by rcases h _ e with e | e;have:=hlt _ e;omega;omega⟩
 clear c0 r3 r2
 go_loopw [12] (fun x wr=>∃ j:Nat,j≤L.length∧x= .int .i64 (j:Int)∧CyI w3 wr A V T L f j g2 g3 (btc (.slice na nn nc) f)) (fun x _=>L.length - (intOf x).toNat)
 case atStart=>exact⟨0,Nat.zero_le _,rfl,start⟩
 case round=>
  clear start
  obtain⟨j,hj,rfl,I⟩:=hrel
  obtain⟨T',⟨U1,E1,F1,H1,hT1⟩,s1,g1⟩:=I.vg
  have c2:=I.c2.cell 0 _ rfl
  have c31:=I.c3.cell 1 _ rfl
  obtain⟨hokj,hrj⟩:=hokJ j hj
  have ze:=I.ze
  have I2:=I.c2
  have I3:=I.c3
  have hT':∀ x,T' x→T x∨w3.heap.size≤x:=fun x hx=>by rcases g1 x hx with e | e;exact .inl e;exact .inr e.1
  by_cases hlt':j < L.length
  · have h2:=hs'.step s1 he hB
    obtain⟨bb,o,e,hcs⟩:=h2.i.cell (by simp only at hl ⊢;omega)
    have ck:=hcs j (by simp only at hl ⊢;omega)
    simp only at e
    subst e
    have hTk:L.take (j+1)=L.take j++ [L.getD j 0]:=by
     rw [List.take_add_one,List.getElem?_eq_getElem hlt',List.getD_eq_getElem?_getD,List.getElem?_eq_getElem hlt'];rfl
    have hwx:wfi (L.getD j 0):=by
     rw [List.getD_eq_getElem?_getD,List.getElem?_eq_getElem hlt'];exact hs.i.wf _ (List.getElem_mem _)
    have e1:Hid (V.brs f (L.take (j+1))=((V.brs f (L.take j)).2.brgE (L.getD j 0) f,(V.brs f (L.take j)).2.brg (L.getD j 0) f)):=by show _=_;rw [hTk,Zla _ ze]
    have e2:Hid (V.brgE=V.brgE∧((V.brs f (L.take (j+1))).1≠0→V.brs f L=V.brs f (L.take (j+1)))):=⟨rfl,fun h=>by
     have:=Zlb (L.drop (j+1)) h
     rwa [List.take_append_drop]at this⟩
    generalize L.getD j 0=y at *
    generalize hV1:(V.brs f (L.take j)).2=V1 at *
    have hBr:=Zhl H1 hokj (by omega) y hwx f hT1
    have a3:(j:Int) < (nn:Int):=by omega
    obtain⟨e0,he0⟩:∃ e0,Hid (V1.brgE y f=e0):=⟨_,rfl⟩
    rw [he0.out]at hBr
    clear hcs h2 hTk hV1 I
    obtain⟨n2,n3⟩:=nT2 T' hT'
    by_cases h0:e0=0
    · subst h0
      go_wp2_with (first
       | (go_at_call 149;refine hBr.mono ?_;rintro e w5 ⟨rfl,k5⟩;clear hBr
          have d2:=I2.step k5.stp n2
          have d3:=I3.step k5.stp n3))
      have K5:VG A (V1.brg y f) T w3 w5:=VG.seq s1 g1 k5
      have J:CyI w3 w5 A V T L f (j+1) g2 g3 (btc (.slice (some ⟨bb,o,none⟩) nn nc) f):=⟨by rw [e1.out];exact he0.out,by rw [e1.out];exact K5,d2,d3⟩
      go_roundw
      case rel=>exact⟨j+1,by omega,by go_num,J⟩
      case measure=>simp [intOf];omega
    · have hd0:¬e0=0:=h0
      have hc:Hid (V.cary L f=(e0,V1.brg y f)):=by
       show _=_
       have h1:(V.brs f (L.take (j+1))).1≠0:=by rw [e1.out];show V1.brgE y f≠0;rw [he0.out];exact h0
       have h2:=e2.out.2 h1
       have h3:V.brs f L=(e0,V1.brg y f):=by rw [h2,e1.out,he0.out]
       unfold VZ.cary
       rw [h3,if_neg h0]
      go_wp2_with (first
       | (go_at_call 149;refine hBr.mono ?_;rintro e w5 ⟨rfl,k5⟩;clear hBr
          have d2:=I2.step k5.stp n2
          have d3:=I3.step k5.stp n3))
      go_returns
      exact⟨by rw [← hrE.out,hc.out];rfl,by rw [hc.out];exact VG.from B3 (VG.seq s1 g1 k5)⟩
  · have hj':j=L.length:=by omega
    subst hj'
    rw [List.take_length]at ze hokj hrj H1
    have hc1:Hid (V.cary L f=((V.brs f L).2.endE f,(V.brs f L).2.endB f)):=by show _=_;unfold VZ.cary;rw [if_pos ze]
    generalize (V.brs f L).2=V1 at *
    have y1:=H1.cells.2.1
    have y2:=H1.cells.2.2.1
    obtain⟨n2,n3⟩:=nT2 T' hT'
    clear I
    have fin:∀ (w5 w6 w7:World) (V2:VZ) (T2 U2 E2 F2:Nat→Prop),Vx w5 A V2 U2 E2 F2→Stp T' wr w5→(∀ x,Vt A U2 E2 F2 x→T' x∨wr.heap.size≤x)→Gh w6 A.g (V2.g.stl fun _=>true) E2 F2→Stp F2 w5 w6→Vx w7 A V2.settled U2 E2 F2→Stp (fun x=>x=A.v) w6 w7→VG A V2.settled T w3 w7:=fun w5 w6 w7 V2 T2 U2 E2 F2 h5 s5 g5 q6 s6 h7 s7=>by
     have up:∀ x,Vt A U2 E2 F2 x→T' x∨wr.heap.size≤x:=g5
     refine VG.seq s1 g1 (VG.is h7 ((s5.next s6 (fun x hx=>up x (.inr (.inr (.inl hx))))).next s7 (fun x hx=>?_)) g5)
     subst hx
     exact .inl ((hT1 A.v).2 (by unfold Vt;simp))
    cases f
    · have hF:=Zlq H1.ca (hokj.c.oOk (by omega))
      obtain⟨e0,he0⟩:∃ e0,Hid (oErr V1.c.p=e0):=⟨_,rfl⟩
      rw [he0.out]at hF
      have hpf:=hokj.p.flush.ex
      by_cases h0:e0=0
      · subst h0
        have hc2:Hid (rE=0∧(V.cary L false).2=({ V1 with c:=V1.c.flush} :VZ).settled):=⟨by rw [← hrE.out,hc1.out];show V1.endE false=0;unfold VZ.endE;simp;exact he0.out,by rw [hc1.out];show V1.endB false=_;unfold VZ.endB;simp;intro h;exact absurd he0.out h⟩
        have hFn:∀ w' fv U5,Vx w' A ({ V1 with c:=V1.c.flush} :VZ).settled U5 E1 F1→_:=fun w' fv U5 h=>Z87 h fv
        go_wp2_with (first
         | (go_at_call 150;refine hF.mono ?_;rintro e w5 ⟨rfl,k5⟩;clear hF
            obtain⟨U5,H5,s5,g5⟩:=H1.ofC k5 hpf
            have d2:=(I2.step s5 (fun hx=>n2 ((hT1 _).2 (.inl hx)))).cell 0 _ rfl
            have y5:=H5.cells.2.1
            have S5:Stp T' wr w5:=s5.mono (fun x hx=> .inl ((hT1 x).2 (.inl hx)))
            have G5:∀ x,Vt A U5 E1 F1 x→T' x∨wr.heap.size≤x:=Vt.more hT1 (fun x hx=>by rcases g5 x hx with e | e;exact .inl e;exact .inr e.1) (fun x hx=> .inl hx) (fun x hx=> .inl hx)
            have hSt:=Z5h H5.gh
            clear k5 y1 y2 c2)
         | (go_at_call 151;refine hSt.mono ?_;rintro e w6 ⟨rfl,q6,s6⟩;clear hSt
            have H6:=H5.ofG q6 s6 (Grew.refl _ _ _) (Grew.refl _ _ _)
            have d6:w6.cell? ⟨g2,0,none⟩=some (.pointer (some ⟨A.v,0,none⟩)):=s6.cell d2 (fun hx=>n2 ((hT1 _).2 (.inr (.inr (.inl hx)))))
            clear d2)
         | (go_at_call 80;refine(hFn _ _ _ H6).mono ?_;rintro e w7 ⟨rfl,H7,s7⟩;clear hFn))
        go_returns
        obtain⟨p1,p2⟩:=hc2.out
        exact⟨by rw [p1];rfl,by rw [p2];exact VG.from B3 (fin w5 w6 w7 _ T' U5 E1 F1 H5 S5 G5 q6 s6 H7 s7)⟩
      · have hd0:¬e0=0:=h0
        have hc2:Hid (rE=e0∧(V.cary L false).2=({ V1 with c:=V1.c.flush} :VZ)):=⟨by rw [← hrE.out,hc1.out];show V1.endE false=e0;unfold VZ.endE;simp;exact he0.out,by rw [hc1.out];show V1.endB false=_;unfold VZ.endB;simp;intro h;exact absurd (he0.out.symm.trans h) h0⟩
        go_wp2_with (first
         | (go_at_call 150;refine hF.mono ?_;rintro e w5 ⟨rfl,k5⟩;clear hF
            obtain⟨U5,H5,s5,g5⟩:=H1.ofC k5 hpf
            have d2:=(I2.step s5 (fun hx=>n2 ((hT1 _).2 (.inl hx)))).cell 0 _ rfl
            have y5:=H5.cells.2.1
            have S5:Stp T' wr w5:=s5.mono (fun x hx=> .inl ((hT1 x).2 (.inl hx)))
            have G5:∀ x,Vt A U5 E1 F1 x→T' x∨wr.heap.size≤x:=Vt.more hT1 (fun x hx=>by rcases g5 x hx with e | e;exact .inl e;exact .inr e.1) (fun x hx=> .inl hx) (fun x hx=> .inl hx)
            have hSt:=Z5h H5.gh
            clear k5 y1 y2 c2))
        go_returns
        obtain⟨p1,p2⟩:=hc2.out
        exact⟨by rw [p1];rfl,by rw [p2];exact VG.from B3 (VG.seq s1 g1 (VG.is H5 S5 G5))⟩
    · have hSt:=Z5h H1.gh
      have hc2:Hid (rE=0∧(V.cary L true).2=V1.settled):=⟨by rw [← hrE.out,hc1.out];rfl,by rw [hc1.out];rfl⟩
      have hFn:∀ w' fv,Vx w' A V1.settled U1 E1 F1→_:=fun w' fv h=>Z87 h fv
      go_wp2_with (first
       | (go_at_call 151;refine hSt.mono ?_;rintro e w6 ⟨rfl,q6,s6⟩;clear hSt
          have H6:=H1.ofG q6 s6 (Grew.refl _ _ _) (Grew.refl _ _ _)
          have d6:w6.cell? ⟨g2,0,none⟩=some (.pointer (some ⟨A.v,0,none⟩)):=s6.cell c2 (fun hx=>n2 ((hT1 _).2 (.inr (.inr (.inl hx)))))
          clear c2)
       | (go_at_call 80;refine(hFn _ _ H6).mono ?_;rintro e w7 ⟨rfl,H7,s7⟩;clear hFn))
      go_returns
      obtain⟨p1,p2⟩:=hc2.out
      exact⟨by rw [p1];rfl,by rw [p2];exact VG.from B3 (fin wr w6 w7 _ T' U1 E1 F1 H1 (Stp.refl _ _) (fun x hx=> .inl ((hT1 x).2 hx)) q6 s6 H7 s7)⟩
end
set_option maxRecDepth 100000
theorem Zlz {P:Nat→Prop} (h:∃ m,P m):∃ m,P m∧∀ k,P k→m≤k:=by
 obtain⟨m,hm⟩:=h
 induction m using Nat.strongRecOn with
 | ind m ih=>
   by_cases hk:∃ k,k < m∧P k
   · obtain⟨k,h1,h2⟩:=hk
     exact ih k h1 h2
   · exact⟨m,hm,fun k h=>Nat.le_of_not_lt fun hl=>hk ⟨k,hl,h⟩⟩
theorem Zid {P:Nat→Prop} (h:∃ m,P m):P (Classical.epsilon fun m=>P m∧∀ k,P k→m≤k)∧∀ k,P k→(Classical.epsilon fun m=>P m∧∀ k,P k→m≤k)≤k:=Classical.epsilon_spec (Zlz h)
theorem Zqk {P:Nat→Prop} (h:∃ m,P m):∃ m,P m∧Hid ((Classical.epsilon fun m=>P m∧∀ k,P k→m≤k)=m):=⟨_,(Zid h).1,rfl⟩
theorem Znd {f:Bool} :∀ (L:List Int) (V:VZ),Rise V.g.l→(V.brs f L).1=0→(V.brs f L).2.g=V.g.cr L∧(V.brs f L).2.fr=V.fr∧(V.brs f L).2.s=V.s∧(V.brs f L).2.w=V.w
 | [],V,_,_=>⟨rfl,rfl,rfl,rfl⟩
 | i::r,V,hr,h=>by
   unfold VZ.brs at h ⊢
   by_cases hi:V.brgE i f=0
   · rw [if_pos hi]at h ⊢
     have hg:(V.brg i f).g=V.g.wr (rdy V.g.l i)∧(V.brg i f).fr=V.fr∧(V.brg i f).s=V.s∧(V.brg i f).w=V.w:=by
      unfold VZ.brgE at hi
      unfold VZ.brg
      by_cases h1:V.c.holdE i=0
      · rw [if_pos h1]at hi ⊢
        by_cases h2:stoE (V.c.hold i) i (V.nxt i) f=0
        · rw [if_pos h2];exact⟨rfl,rfl,rfl,rfl⟩
        · rw [if_neg h2]at hi;exact absurd hi h2
      · rw [if_neg h1]at hi;exact absurd hi h1
     obtain⟨k1,k2,k3,k4⟩:=Znd r (V.brg i f) (Z8b hr i f) h
     refine⟨?_,by rw [k2,hg.2.1],by rw [k3,hg.2.2.1],by rw [k4,hg.2.2.2]⟩
     rw [k1,hg.1];rfl
   · rw [if_neg hi]at h;exact absurd h hi
theorem Zqe {V:VZ} {L:List Int} {f:Bool} (hr:Rise V.g.l) (h:(V.cary L f).1=0):(V.cary L f).2.g=V.g.car L:=by
 unfold VZ.cary at h ⊢
 by_cases h0:(V.brs f L).1=0
 · rw [if_pos h0]at h ⊢
   have hg:=(Znd L V hr h0).1
   have h':(V.brs f L).2.endE f=0:=h
   show((V.brs f L).2.endB f).g=_
   unfold VZ.endE at h'
   unfold VZ.endB
   cases f
   · simp only [Bool.false_eq_true,if_false]at h' ⊢
     rw [if_pos h']
     show(V.brs false L).2.g.stl _=_
     rw [hg];rfl
   · simp only [if_true]
     show(V.brs true L).2.g.stl _=_
     rw [hg];rfl
 · rw [if_neg h0]at h;exact absurd h h0
section
variable {u : World} {A : VA} {V : VZ} {U E F T B : Nat → Prop} {t k : Nat}
structure StI (u wr:World) (A:VA) (V V':VZ) (T:Nat→Prop) (is:List Int) (k M N m g5:Nat) (sv:Sv):Prop where
 f:VZ.stlF is N V=VZ.stlF is m V'
 nd:(nd is V'.g.l).length≤m
 ok:∃ t',VOk t' k V'∧t'+(3 * M+1) * m≤8960
 ml:V'.g.l.length≤M
 cb:Cs wr g5 (btc (.slice sv.a sv.n sv.c) (frS (bsS is V'.g.l) V'.g.l))
 ap:∃ T',Vo wr A V' T'∧Stp T u wr∧Grew T T' u wr∧¬T' g5∧InsS wr sv (bsS is V'.g.l)∧InE (fun x=>¬T' x) sv
def StR (u:World) (A:VA) (V:VZ) (T:Nat→Prop) (is:List Int) (k M N:Nat) (v5 v6:Value) (wr:World) (m:Nat):Prop:=
 ∃ V' g5 sv,v5= .pointer (some ⟨g5,0,none⟩)∧v6= .bool (mor is V'.g.l)∧StI u wr A V V' T is k M N m g5 sv
theorem Zbs (H:Vx u A V U E F) (n6:∀ p ∈ V.g.l,p.needs.length≤6) {s:Sv} {is:List Int} (hs:InsS u s is) (hl:is.length≤1000) (hM:V.g.l.length≤100):
 Calls Tryz.prog 96 #[.pointer (some ⟨A.g,0,none⟩), .slice s.a s.n s.c] u fun e w'=>∃ sv:Sv,e= .returned (.tuple #[.agg (btc (.slice sv.a sv.n sv.c) (frS (bsS is V.g.l) V.g.l)).toArray, .bool (mor is V.g.l)])∧InsS w' sv (bsS is V.g.l)∧InE (fun x=>u.heap.size≤x) sv∧Below u.heap.size u w':=by
 have hok:=H.gh.ok
 obtain⟨_,_,_,_,hg⟩:=H.gh
 refine(Z6j hg hs hl hM n6).mono ?_
 rintro e w' ⟨v,rfl,o2,n2,b2⟩
 obtain⟨⟨va,vn,vc⟩,e4, -,iv,ev⟩:=o2.ins (Zf5 hok is) n2
 have e4':v= .slice va vn vc:=e4
 subst e4'
 exact⟨⟨va,vn,vc⟩,rfl,iv,ev.mono (fun x hx=>hx.1),b2⟩
set_option maxHeartbeats 4000000 in
theorem Zev (H:Vx u A V U E F) (ok:VOk t k V) {s:Sv} {is:List Int} (hs:InsS u s is) (he:InE B s) (hB:∀ x,B x→¬T x) (hl:is.length≤1000) {M N:Nat} (hM:V.g.l.length≤M) (hM1:M≤100) (hN:(nd is V.g.l).length≤N) (hb:t+(3 * M+1) * N≤8960) (hT:∀ x,T x↔Vt A U E F x):
 Calls Tryz.prog 31 #[.pointer (some ⟨A.v,0,none⟩), .slice s.a s.n s.c] u fun e w'=>∃ r:Int×VZ,VZ.stlF is N V=some r∧e= .returned (.int .i64 r.1)∧VG A r.2 T u w':=by
 have hNx:=Zbs H ok.n6 hs hl (by omega)
 have hlt:∀ x,T x→x < u.heap.size:=fun x hx=>H.lt x ((hT x).1 hx)
 have hVo:Vo u A V T:=⟨U,E,F,H,hT⟩
 have y1:=H.cells.2.1
 obtain⟨na,nn,nc⟩:=s
 obtain⟨b0,hb0⟩:∃ b,Hid (mor is V.g.l=b):=⟨_,rfl⟩
 obtain⟨f0,hf0⟩:∃ b,Hid (frS (bsS is V.g.l) V.g.l=b):=⟨_,rfl⟩
 rw [hb0.out,hf0.out]at hNx
 have t1:Hid True:=trivial
 go_enter Tryz.func31,Tryz.ntmps31
 go_wp2_with (first
  | (go_at_call 96;refine hNx.mono ?_;rintro e w2 ⟨⟨va,vn,vc⟩,rfl,iv,ev,b2⟩;clear hNx)
  | (refine Z66 (by rfl) (by rfl) ?_;intro g3 w3 a3 a4 r3 b3)
  | (refine Z4m (by rfl) _ _ (by rfl) g3 (by rfl) (.slice va vn vc) rfl _ (by rfl) _ r3 rfl ?_;intro w4 r4 s4))
 have hs2:=b2.size
 have hs3:=b3.size
 have B24:Below u.heap.size u w4:=((Stp.of_below (Z01 b2 b3 (Nat.le_refl _)) (fun _=>False)).next s4 (fun x e=> .inr (by omega))).below (Nat.le_refl _) (fun x e=>e.elim)
 have iv4:InsS w4 ⟨va,vn,vc⟩ (bsS is V.g.l):=(iv.later b3).step s4 (E:=fun x=>x < w2.heap.size) (fun ad e h0=>by
  obtain⟨b',o',e',hc⟩:=iv.i.cell h0
  rw [e]at e';injection e' with e';subst e'
  exact World.block_lt_of_cell? w2 _ (hc 0 h0)) (fun x hx e=>by omega)
 have start:StR u A V T is k M N (.pointer (some ⟨g3,0,none⟩)) (.bool b0) w4 N:=⟨V,g3,⟨va,vn,vc⟩,rfl,by rw [hb0.out],rfl,hN,⟨t,ok,hb⟩,hM,by rw [hf0.out];exact r4,T,hVo.later B24,Stp.of_below B24 T,Grew.refl _ _ _,fun e=>by have:=hlt _ e;omega,iv4,ev.mono (fun x hx e=>by have:=hlt x e;omega)⟩
 clear b2 b3 s4 r3 r4 iv ev iv4 y1 a3 a4
 go_loopw [5,6] (fun v5 v6 wr=>∃ m,StR u A V T is k M N v5 v6 wr m) (fun v5 v6 wr=>Classical.epsilon (fun m=>StR u A V T is k M N v5 v6 wr m∧∀ k0,StR u A V T is k M N v5 v6 wr k0→m≤k0))
 case atStart=>exact⟨N,start⟩
 case round=>
  clear start
  obtain⟨m,hP,hm⟩:=Zqk hrel
  obtain⟨V',g5,⟨sa,sn,sc⟩,rfl,rfl,I⟩:=hP
  obtain⟨t',ok',hb'⟩:=I.ok
  obtain⟨T',⟨U1,E1,F1,H1,hT1⟩,s1,g1,n5,iv,ev⟩:=I.ap
  have hf:=I.f
  have hnd:=I.nd
  have hml:=I.ml
  have hcb:Cs wr g5 (btc (.slice sa sn sc) (frS (bsS is V'.g.l) V'.g.l)):=I.cb
  have hlt1:∀ x,T' x→x < _:=fun x hx=>H1.lt x ((hT1 x).1 hx)
  cases hmr:mor is V'.g.l
  · have hr:Hid (VZ.stlF is N V=some (0,V')):=by
     show _=_
     rw [hf]
     cases m with
     | zero=>unfold VZ.stlF;rw [hmr];rfl
     | succ m=>unfold VZ.stlF;rw [hmr];rfl
    clear hrel hm I hf
    go_wp2_with fail
    go_returns
    first | exact⟨0,V',hr.out,rfl,T',⟨U1,E1,F1,H1,hT1⟩,s1,g1⟩ | exact⟨(0,V'),hr.out,rfl,T',⟨U1,E1,F1,H1,hT1⟩,s1,g1⟩
  · rw [hmr]at hm
    have hne:nd is V'.g.l≠ []:=fun e=>by have:=(Zj7 e).1;rw [hmr]at this;cases this
    obtain⟨m',rfl⟩:∃ m',m=m'+1:=⟨m - 1,by have:0 < (nd is V'.g.l).length:=List.length_pos_iff.2 hne;omega⟩
    have hL:(bsS is V'.g.l).length≤M:=Nat.le_trans (Znz H1.gh.ok is) hml
    have hmul:(3 * M+1) * (m'+1)=(3 * M+1) * m'+(3 * M+1):=by rw [Nat.mul_succ]
    have hC:=Zhm H1 ok' iv ev (fun x hx=>hx) (by omega) (frS (bsS is V'.g.l) V'.g.l) hT1
    have hrs:=H1.gh.ok.srt
    have hokC:=ok'.cary hrs (bsS is V'.g.l) (frS (bsS is V'.g.l) V'.g.l)
    have hgC:=Zqe (V:=V') (L:=bsS is V'.g.l) (f:=frS (bsS is V'.g.l) V'.g.l) hrs
    have hless:=Zlh H1.gh.ok hne
    have hlen:=Zo4 hrs (bsS is V'.g.l)
    have hstep:VZ.stlF is (m'+1) V'=if (V'.cary (bsS is V'.g.l) (frS (bsS is V'.g.l) V'.g.l)).1=0 then VZ.stlF is m' (V'.cary (bsS is V'.g.l) (frS (bsS is V'.g.l) V'.g.l)).2 else some (V'.cary (bsS is V'.g.l) (frS (bsS is V'.g.l) V'.g.l)):=by
     conv=>lhs;unfold VZ.stlF
     rw [if_pos hmr]
    rw [hstep]at hf
    generalize hcy:V'.cary (bsS is V'.g.l) (frS (bsS is V'.g.l) V'.g.l)=CY at *
    obtain⟨e0,V2⟩:=CY
    simp only at hC hokC hgC hf
    have hbd:t'+3 * (bsS is V'.g.l).length+1+(3 * M+1) * m'≤8960:=by omega
    have hf':Hid (VZ.stlF is N V=if e0=0 then VZ.stlF is m' V2 else some (e0,V2)):=hf
    have hq:Hid (e0=0→(nd is V2.g.l).length≤m'∧V2.g.l.length≤M):=fun h=>by
     rw [hgC h];exact⟨by omega,by omega⟩
    have hokC':Hid (VOk (t'+3 * (bsS is V'.g.l).length+1) k V2∧t'+3 * (bsS is V'.g.l).length+1+(3 * M+1) * m'≤8960):=⟨hokC,hbd⟩
    clear hrel I hf hgC hless hlen hstep hcy hmul hb'
    obtain⟨y0,hy0⟩:∃ y,Hid (frS (bsS is V'.g.l) V'.g.l=y):=⟨_,rfl⟩
    rw [hy0.out]at hcb hC
    have t2:Hid True:=trivial
    by_cases h0:e0=0
    · subst h0
      obtain⟨q1,q2⟩:=hq.out rfl
      obtain⟨b0,hb0⟩:∃ b,Hid (mor is V2.g.l=b):=⟨_,rfl⟩
      obtain⟨f1,hf1⟩:∃ b,Hid (frS (bsS is V2.g.l) V2.g.l=b):=⟨_,rfl⟩
      go_wp2_with (first
       | (clear t2;refine Z8a (by rfl) _ (by rfl) g5 (by rfl) _ _ hcb ?_)
       | (go_at_call 97;refine hC.mono ?_;rintro e w6 ⟨rfl,k6⟩;clear hC
          have hc6:=hcb.step k6.stp n5
          have K6:=VG.seq s1 g1 k6
          obtain⟨T6,⟨U6,E6,F6,H6,hT6⟩,s6,g6⟩:=K6
          have hlt6:∀ x,T6 x→x < w6.heap.size:=fun x hx=>H6.lt x ((hT6 x).1 hx)
          have hN6:=fun w' (b:Below w6.heap.size w6 w')=>Zbs (H6.later b) hokC'.out.1.n6 ((hs.step s6 he hB).later b) hl (by omega)
          rw [hb0.out,hf1.out]at hN6
          clear hcb k6)
       | (refine Z8a (by rfl) _ (by rfl) g5 (by rfl) _ _ hc6 ?_)
       | (clear t1;refine Z66 (by rfl) (by rfl) ?_;intro g7 w7 a7 z7 r7 b7)
       | (refine Z4m (by rfl) _ _ (by rfl) g7 (by rfl) (.slice sa sn sc) rfl _ (by rfl) _ r7 rfl ?_;intro w8 r8 s8
          have B8:Below w6.heap.size w6 w8:=((Stp.of_below b7 (fun _=>False)).next s8 (fun x e=> .inr (by omega))).below (Nat.le_refl _) (fun x e=>e.elim)
          have y8:=(H6.later B8).cells.2.1)
       | (go_at_call 96;refine(hN6 _ B8).mono ?_;rintro e w9 ⟨⟨va,vn,vc⟩,rfl,i9,e9,b9⟩;clear hN6)
       | (refine Z4m (by rfl) _ _ (by rfl) g7 (by rfl) (.slice va vn vc) rfl _ (by rfl) _ (r8.step (Stp.of_below b9 (fun _=>False)) id) rfl ?_;intro w10 r10 s10))
      have hz8:=B8.size
      have hz9:=b9.size
      have B10:Below w6.heap.size w6 w10:=((Stp.of_below (Z01 B8 b9 (Nat.le_refl _)) (fun _=>False)).next s10 (fun x e=> .inr (by omega))).below (Nat.le_refl _) (fun x e=>e.elim)
      have i10:InsS w10 ⟨va,vn,vc⟩ (bsS is V2.g.l):=i9.step s10 (E:=fun x=>w8.heap.size≤x) e9 (fun x hx e=>by have:=r8.lt;omega)
      have J:StR u A V T is k M N (.pointer (some ⟨g7,0,none⟩)) (.bool b0) w10 m':=⟨V2,g7,⟨va,vn,vc⟩,rfl,by rw [hb0.out],by rw [hf'.out];rfl,q1,⟨_,hokC'.out.1,hokC'.out.2⟩,q2,by rw [hf1.out];exact r10,T6,⟨U6,E6,F6,H6.later B10,hT6⟩,s6.trans (Stp.of_below B10 T),g6.trans (Grew.refl _ _ _) s6.size B10.size,fun e=>by have:=hlt6 _ e;omega,i10,e9.mono (fun x hx e=>by have:=hlt6 x e;omega)⟩
      go_roundw
      case rel=>exact⟨m',J⟩
      case measure=>exact Nat.lt_of_le_of_lt ((Zid ⟨m',J⟩).2 m' J) (Nat.lt_of_lt_of_eq (Nat.lt_succ_self m') hm.out.symm)
    · have hd0:¬e0=0:=h0
      have hr:Hid (VZ.stlF is N V=some (e0,V2)):=by show _=_;rw [hf'.out,if_neg h0]
      go_wp2_with (first
       | (clear t2;refine Z8a (by rfl) _ (by rfl) g5 (by rfl) _ _ hcb ?_)
       | (go_at_call 97;refine hC.mono ?_;rintro e w6 ⟨rfl,k6⟩;clear hC))
      go_returns
      first | exact⟨e0,V2,hr.out,rfl,VG.seq s1 g1 k6⟩ | exact⟨(e0,V2),hr.out,rfl,VG.seq s1 g1 k6⟩
end
set_option maxRecDepth 100000
def VZ.same (V:VZ) (gr:Nat):Bool:=V.w.right&&decide (V.w.says=gr)
def VZ.tnE (V:VZ) (gr:Nat):Int:=if V.same gr then 0 else Z0u V.p
def VZ.tn (V:VZ) (gr:Nat):VZ:=if V.same gr then V else { V with w:=V.w.turn (gr % 256) V.p,c:= { V.c with p:=some V.p.turn} }
section
variable {u : World} {A : VA} {V : VZ} {U E F T B : Nat → Prop} {t k : Nat}
set_option maxHeartbeats 4000000 in
theorem Zkp (H:Vx u A V U E F) (ok:VOk t k V) (ht:t≤9000) (gr:Nat) (hgr:gr < 256):
 Calls Tryz.prog 82 #[.pointer (some ⟨A.v,0,none⟩), .int .u32 (gr:Int)] u fun e w'=>e= .returned (.int .i64 (V.tnE gr))∧Vx w' A (V.tn gr) U E F∧Stp (fun x=>x=A.w∨U x) u w':=by
 obtain⟨e,h1,h2⟩:=H.p
 have hS:=Z57 A.w V.w (some A.s) u H.ww
 have hK:=fun w' (b:Below u.heap.size u w')=>Zcu A.w gr V.w (some A.s) V.p w' (H.ww.stp (Stp.of_below b (fun _=>False)) id) ((H.later b).p.2.1) (H.tb.later b) (ok.c.okk (k:=3) (by omega) e) (by omega) (fun h=>by injection h with h;exact H.uw.1 (h▸h2)) (fun y hy=>by
  have:y ∈ [A.s]:=hy
  rw [List.mem_singleton]at this;subst this;exact Nat.lt_of_lt_of_le (H.ca.lt _ h2) b.size)
 have y3:=H.cells.2.2.2.1
 unfold VZ.tnE VZ.tn VZ.same
 obtain⟨r0,hr0⟩:∃ r,Hid (V.w.right=r):=⟨_,rfl⟩
 obtain⟨q0,hq0⟩:∃ r,Hid (V.w.says=r):=⟨_,rfl⟩
 rw [hr0.out,hq0.out]at hS ⊢
 go_enter Tryz.func82,Tryz.ntmps82
 by_cases hr:r0=true∧q0=gr
 · obtain⟨rfl,rfl⟩:=hr
   go_wp2_with (first
    | (go_at_call 25;refine hS.mono ?_;rintro e w2 ⟨rfl,b2⟩;clear hS))
   go_returns
   refine⟨?_,?_,Stp.of_below b2 _⟩
   · first | rfl | simp
   · first | exact H.later b2 | (simp;exact H.later b2)
 · have hb:(r0&&decide (q0=gr))=false:=by
    cases r0
    · rfl
    · simp at hr ⊢;exact hr
   rw [hb,if_neg (by decide),if_neg (by decide)]
   have fin:∀ w2 w3,Below u.heap.size u w2→Step (A.w::(some A.s).toList) w2 w3→Ww w3 A.w (V.w.turn (gr % 256) V.p) (some A.s)→Sp w3 (some A.s) V.p.turn→Vx w3 A { V with w:=V.w.turn (gr % 256) V.p,c:= { V.c with p:=some V.p.turn} } U E F∧Stp (fun x=>x=A.w∨U x) u w3:=fun w2 w3 b2 k1 k2 k3=>by
    obtain⟨h3,h4⟩:=(H.later b2).ofW k1 k2 k3
    exact⟨h3,(Stp.of_below b2 _).trans h4⟩
   obtain⟨tE,htE⟩:∃ r,Hid (Z0u V.p=r):=⟨_,rfl⟩
   rw [htE.out]at hK ⊢
   have hcase:r0=false∨(r0=true∧¬(q0:Int)=(gr:Int)):=by
    cases r0
    · exact .inl rfl
    · refine .inr ⟨rfl,fun e=>?_⟩
      have:q0=gr:=by omega
      simp [this]at hb
   rcases hcase with rfl | ⟨rfl,hne⟩
   · go_wp2_with (first
      | (go_at_call 25;refine hS.mono ?_;rintro e w2 ⟨rfl,b2⟩;clear hS;have y4:=(H.later b2).cells.2.2.2.1;clear y3)
      | (go_at_call 102;refine(hK _ b2).mono ?_;rintro e w3 ⟨rfl,k1,k2,k3⟩;clear hK))
     go_returns
     exact⟨rfl,fin w2 w3 b2 k1 k2 k3⟩
   · go_wp2_with (first
      | (go_at_call 25;refine hS.mono ?_;rintro e w2 ⟨rfl,b2⟩;clear hS;have y4:=(H.later b2).cells.2.2.2.1;clear y3)
      | (go_at_call 102;refine(hK _ b2).mono ?_;rintro e w3 ⟨rfl,k1,k2,k3⟩;clear hK))
     go_returns
     exact⟨rfl,fin w2 w3 b2 k1 k2 k3⟩
set_option maxHeartbeats 4000000 in
theorem Zay (H:Vx u A V U E F) (hg:V.g.l= []):
 Calls Tryz.prog 79 #[.pointer (some ⟨A.v,0,none⟩)] u fun e w'=>e= .returned (.int .i64 0)∧Below u.heap.size u w':=by
 have hA:Calls Tryz.prog 58 #[.pointer (some ⟨A.g,0,none⟩)] u fun e w'=>∃ a c,e= .returned (.slice a 0 c)∧Below u.heap.size u w':=by
  obtain⟨_,_,_,_,h⟩:=H.gh
  refine(Z32 h).mono ?_
  rintro e w' ⟨v,rfl,o2,n2,b2⟩
  rw [hg]at o2
  have o3:OwV w' v []:=o2
  obtain⟨⟨va,vn,vc⟩,e4,e5, -, -⟩:=o3.ins (fun x hx=>by cases hx) n2
  have e4':v= .slice va vn vc:=e4
  have e5':vn=0:=e5
  subst e4';subst e5'
  exact⟨_,_,rfl,b2⟩
 have y1:=H.cells.2.1
 go_enter Tryz.func79,Tryz.ntmps79
 go_wp2_with (first
  | (go_at_call 58;refine hA.mono ?_;rintro e w2 ⟨va,vc,rfl,b2⟩;clear hA))
 refine wp_loop_rounds 1 ?_
 rw [rounds_succ]
 go_wp2
 go_returns
 exact⟨rfl,b2⟩
set_option maxHeartbeats 4000000 in
theorem Zeu (H:Vx u A V U E F):
 Calls Tryz.prog 83 #[.pointer (some ⟨A.v,0,none⟩), .slice none 0 0] u fun e w'=>e= .returned (.int .u32 0)∧u=w':=by
 go_enter Tryz.func83,Tryz.ntmps83
 go_wp2
 refine wp_loop_rounds 1 ?_
 rw [rounds_succ]
 go_wp2
 go_returns
 exact⟨rfl,rfl⟩
set_option maxHeartbeats 4000000 in
theorem Zko (H:Vx u A V U E F) (ok:VOk t k V) (ht:t≤9000) (hg:V.g.l= []):
 Calls Tryz.prog 18 #[.pointer (some ⟨A.v,0,none⟩), .slice none 0 0] u fun e w'=>e= .returned (.int .i64 (V.tnE 0))∧Vx w' A (V.tn 0) U E F∧Stp (fun x=>x=A.w∨U x) u w':=by
 have hS:=Zay H hg
 have hGr:=fun w' (b:Below u.heap.size u w')=>Zeu (H.later b)
 have hTn:=fun w' (b:Below u.heap.size u w')=>Zkp (H.later b) ok ht 0 (by omega)
 generalize V.tnE 0=e0 at *
 go_enter Tryz.func18,Tryz.ntmps18
 go_wp2_with (first
  | (go_at_call 79;refine hS.mono ?_;rintro e w2 ⟨rfl,b2⟩;clear hS;have y7:=(H.later b2).cells.2.2.2.2.2.2.2))
 refine wp_loop_rounds 1 ?_
 rw [rounds_succ]
 go_wp2_with (first
  | (go_at_call 83;refine(hGr _ b2).mono ?_;rintro e w3 ⟨rfl,rfl⟩;clear hGr)
  | (go_at_call 82;refine(hTn _ b2).mono ?_;rintro e w4 ⟨rfl,H4,s4⟩;clear hTn))
 go_returns
 exact⟨rfl,H4,(Stp.of_below b2 _).trans s4⟩
end
set_option maxRecDepth 100000
section
variable {u : World} {A : VA} {V : VZ} {U E F T B : Nat → Prop} {t k : Nat}
theorem Zrq {w:World} {g:Nat} {Z:GZ} {E F:Nat→Prop} (H:Gh w g Z E F):
 Calls Tryz.prog 58 #[.pointer (some ⟨g,0,none⟩)] w fun e w'=>∃ s:Sv,e= .returned (.slice s.a s.n s.c)∧s.n=(ids (thP Z.l fun _=>true)).length∧InsS w' s (ids (thP Z.l fun _=>true))∧InE (fun x=>w.heap.size≤x) s∧Below w.heap.size w w':=by
 have hok:=H.ok
 have hwf:∀ x ∈ ids (thP Z.l fun _=>true),wfi x:=fun x hx=>by
  obtain⟨p,hp,rfl⟩:=Z2p.1 hx
  exact(hok.wfp (List.mem_filter.1 hp).1).1
 obtain⟨_,_,_,_,H⟩:=H
 refine(Z32 H).mono ?_
 rintro e w' ⟨v,rfl,o2,n2,b2⟩
 obtain⟨⟨va,vn,vc⟩,e4,e5,i4,e6⟩:=o2.ins hwf n2
 have e4':v= .slice va vn vc:=e4
 subst e4'
 exact⟨⟨va,vn,vc⟩,rfl,e5,i4,e6.mono (fun x hx=>hx.1),b2⟩
set_option maxHeartbeats 4000000 in
theorem Zhn (H:Vx u A V U E F):
 Calls Tryz.prog 33 #[.pointer (some ⟨A.v,0,none⟩)] u fun e w'=>∃ gq F',e= .returned (.pointer (some ⟨gq,0,none⟩))∧Gh w' gq V.g E F'∧(∀ x,F' x→u.heap.size≤x)∧Below u.heap.size u w':=by
 have hC:Calls Tryz.prog 98 #[.pointer (some ⟨A.g,0,none⟩)] u fun e w'=>∃ gq F',e= .returned (.pointer (some ⟨gq,0,none⟩))∧Gh w' gq V.g E F'∧(∀ x,F' x→u.heap.size≤x)∧Below u.heap.size u w':=by
  obtain⟨_,_,_,_,h⟩:=H.gh
  exact Zlj h
 have y1:=H.cells.2.1
 go_enter Tryz.func33,Tryz.ntmps33
 go_wp2_with (first
  | (go_at_call 98;refine hC.mono ?_;rintro e w2 ⟨gq,F',rfl,h2,h3,b2⟩;clear hC))
 go_returns
 exact⟨gq,F',rfl,h2,h3,b2⟩
set_option maxHeartbeats 4000000 in
theorem Ze3 (H:Vx u A V U E F):
 Calls Tryz.prog 24 #[.pointer (some ⟨A.v,0,none⟩)] u fun e w'=>e= .returned (.tuple #[.int .i64 ((ids (thP V.g.l fun _=>true)).length:Nat), .int .i64 0])∧Below u.heap.size u w':=by
 have hA:=fun w' (b:Below u.heap.size u w')=>Zrq (H.later b).gh
 have hS:∀ w',Below u.heap.size u w'→w'.cell? ⟨A.v,1,none⟩=some (.pointer (some ⟨A.g,0,none⟩))∧w'.cell? ⟨A.v,7,none⟩=some (.slice none 0 0):=fun w' b=>⟨(H.later b).cells.2.1,(H.later b).cells.2.2.2.2.2.2.2⟩
 obtain⟨m,hm⟩:∃ m,Hid ((ids (thP V.g.l fun _=>true)).length=m):=⟨_,rfl⟩
 rw [hm.out]at hA ⊢
 go_enter Tryz.func24,Tryz.ntmps24
 go_wp2_with fail
 refine wp_region_held_drew (S:=fun x=>Below u.heap.size u x) (by kernel_rfl) (Below.refl _ _).drew (fun hHeld=>?_)
 refine tl 0 (.pointer (some ⟨A.v,0,none⟩)) rfl ?_
 try simp only [z]
 refine tl 1 (.pointer (some ⟨A.v,0,none⟩)) rfl ?_
 try simp only [z]
 refine tl 2 (.pointer (some ⟨A.v,1,none⟩)) rfl ?_
 try simp only [z]
 refine tl 3 (.pointer (some ⟨A.v,1,none⟩)) rfl ?_
 try simp only [z]
 refine tl 4 (.pointer (some ⟨A.g,0,none⟩)) rfl ?_ (fun u hu=>by have x1:=(hS _ hu).1;go_simp)
 try simp only [z]
 refine tl 7 (.pointer (some ⟨A.v,0,none⟩)) rfl ?_
 try simp only [z]
 refine tl 8 (.pointer (some ⟨A.v,0,none⟩)) rfl ?_
 try simp only [z]
 refine tl 9 (.pointer (some ⟨A.v,7,none⟩)) rfl ?_
 try simp only [z]
 refine tl 10 (.slice none 0 0) rfl ?_ (fun u hu=>by have x1:=(hS _ hu).2;go_simp)
 try simp only [z]
 refine tl 11 (.int .i64 0) rfl ?_
 try simp only [z]
 refine rd 5 rfl (fun K hK=>?_)
 go_simp
 refine(hA _ hHeld).mono ?_
 rintro e v5 ⟨⟨va,vn,vc⟩,rfl,e5,i5,x5,c5⟩
 have e5':vn=m:=e5
 subst e5'
 try go_wp2_with fail
 refine hK.out _ _ (Z01 hHeld c5 (Nat.le_refl _)) (fun hHeld=>?_)
 clear hK K
 try simp only [z]
 refine tl 6 (.int .i64 (vn:Int)) rfl ?_
 try simp only [z]
 refine tl 12 (.int .i64 (vn:Int)) rfl ?_
 try simp only [z]
 refine tl 13 (.int .i64 0) rfl ?_
 try simp only [z]
 refine wpAnyH_done (by kernel_rfl) ?_ _
 go_wp2_with fail
 go_returns
 exact⟨rfl,hHeld⟩
end
set_option maxRecDepth 100000
def Z3d (s:Gm) (i:Int):Blk:=if s.pk i=1 then pBS 1 1 (spP s)else if s.pk i=2 then pBS 2 1 (hL (s.pg i))else if s.pk i=3 then pBS 3 1 Ld.zero else if s.pk i=4 then pBS 4 1 Ld.zero else Blk.zero
def blkK (s:Gm) (n k:Nat):List Blk:=(List.range n).map fun(i:Nat)=>if i < k then Z3d s (i:Int)else Blk.zero
def blkL (s:Gm) (n:Nat):List Blk:=(List.range n).map fun(i:Nat)=>Z3d s (i:Int)
theorem Zi4 (s:Gm) (n:Nat):blkK s n 0=List.replicate n Blk.zero:=by
 unfold blkK
 apply List.ext_getElem
 · simp
 · intro i h1 h2;simp
theorem Zl8 (s:Gm) (n:Nat):blkK s n n=blkL s n:=by
 unfold blkK blkL
 apply List.map_congr_left
 intro i hi
 rw [if_pos (List.mem_range.1 hi)]
theorem Zl9 (s:Gm) {n k:Nat} (hk:k < n):(blkK s n k).set k (Z3d s (k:Int))=blkK s n (k+1):=by
 unfold blkK
 apply List.ext_getElem
 · simp
 · intro i h1 h2
   rw [List.getElem_set]
   by_cases e:k=i
   · subst e;simp
   · simp only [if_neg e,List.getElem_map,List.getElem_range]
     by_cases h:i < k
     · rw [if_pos h,if_pos (by omega)]
     · rw [if_neg h,if_neg (by omega)]
theorem Zi3 (s:Gm) {n k:Nat} (hk:k < n) (h:Z3d s (k:Int)=Blk.zero):blkK s n k=blkK s n (k+1):=by
 unfold blkK
 apply List.map_congr_left
 intro i hi
 by_cases e:i=k
 · subst e;rw [if_neg (by omega),if_pos (by omega),h]
 · by_cases h2:i < k
   · rw [if_pos h2,if_pos (by omega)]
   · rw [if_neg h2,if_neg (by omega)]
theorem Z5b:Srt 69 3 [.int .i64 0, .int .i64 0, .int .i64 0]:=
 ⟨⟨_,Tryz.underlying69,rfl⟩,by kernel_rfl,fun w=>(zero_of_info (v:= .agg #[.int .i64 0, .int .i64 0, .int .i64 0]) (n:=3) (by kernel_rfl)).1 w,rfl,by intro v hv;simp at hv;subst hv;rfl⟩
structure BkI (u wr:World) (s:Gm) (n k gb g1 g4:Nat):Prop where
 w:Wd wr gb n n (blkK s n k)
 g:GR wr g1 s
 p:Row wr g4 (spP s).l
 b:Below u.heap.size u wr
set_option maxHeartbeats 4000000 in
theorem Zi2 (s:Gm) (n:Nat) (hn:s.total=(n:Int)) (hn2:n≤2048) (u:World):
 Calls Tryz.prog 13 #[.agg #[.int .i64 s.g, .int .i64 s.i, .int .i64 s.d]] u fun e w'=>∃ b,e= .returned (.slice (some ⟨b,0,none⟩) n n)∧u.heap.size≤b∧Wd w' b n n (blkL s n)∧Below u.heap.size u w':=by
 have hT:=fun w=>Z20 s w
 rw [hn]at hT
 have hP:=fun w=>Zbk s w
 have hpl:=(spP s).len
 have hW:=fun(x:Int) w=>Zhe s x w
 have t1:Hid True:=trivial
 generalize s.err=se at *
 go_enter Tryz.func13,Tryz.ntmps13
 go_wp2_with (first
  | (refine Z5o (by rfl) _ (by rfl) s (by rfl) ?_;intro g1 w1 a1 z1 r1 b1)
  | (clear t1;refine Z11 (by rfl) _ (by rfl) g1 (by rfl) s r1 ?_)
  | (go_at_call 62;refine(hT _).mono ?_;rintro e w2 ⟨rfl,b2⟩;clear hT)
  | (refine Zhy (by rfl) _ (by rfl) n (by rfl) (by omega) ?_;intro gb w3 a3 r3 b3;have r13:=r1.later (Z01 b2 b3 (Nat.le_refl _)))
  | (refine Z11 (by rfl) _ (by rfl) g1 (by rfl) s r13 ?_)
  | (go_at_call 63;refine(hP _).mono ?_;rintro e w4 ⟨rfl,b4⟩;clear hP)
  | (refine Z03 41 54 arrL (by rfl) (by rfl) ?_;intro g4 w5 a5 z5 r5 b5)
  | (refine Z02 41 54 arrL (by rfl) _ _ (by rfl) g4 (by rfl) (spP s).l (by rfl) hpl _ r5 (by simp) ?_;intro w6 r6 s6))
 have hz2:=b1.size
 have hz3:=b2.size
 have hz4:=b3.size
 have hz5:=b4.size
 have B6:Below u.heap.size u w6:=((Stp.of_below (Z01 (Z01 (Z01 (Z01 b1 b2 (Nat.le_refl _)) b3 (Nat.le_refl _)) b4 (Nat.le_refl _)) b5 (Nat.le_refl _)) (fun _=>False)).next s6 (fun x e=> .inr (by omega))).below (Nat.le_refl _) (fun x e=>e.elim)
 have hgb:gb < w3.heap.size:=r3.lt
 have hub:u.heap.size≤gb:=by omega
 have start:BkI u w6 s n 0 gb g1 g4:=⟨by rw [Zi4];exact((r3.later b4).later b5).step s6 (fun e=>by omega),(r13.later (Z01 b4 b5 (Nat.le_refl _))).step s6 (fun e=>by omega),r6,B6⟩
 have n14:gb≠g1∧gb≠g4:=⟨by omega,by omega⟩
 clear r1 r13 r3 r5 r6 s6 b1 b2 b3 b4 b5 a5 z5 a3
 go_loopw [6] (fun x wr=>∃ k:Nat,k≤n∧x= .int .i64 (k:Int)∧BkI u wr s n k gb g1 g4) (fun x _=>n - (intOf x).toNat)
 case atStart=>exact⟨0,Nat.zero_le _,rfl,start⟩
 case round=>
  clear start B6
  obtain⟨k,hk,rfl,I⟩:=hrel
  by_cases hlt:k < n
  · have hlt':(k:Int) < (n:Int):=by omega
    have hWk:=hW (k:Int)
    have e0:Hid (Z3d s (k:Int)=if s.pk k=1 then pBS 1 1 (spP s)else if s.pk k=2 then pBS 2 1 (hL (s.pg k))else if s.pk k=3 then pBS 3 1 Ld.zero else if s.pk k=4 then pBS 4 1 Ld.zero else Blk.zero):=by show _=_;rfl
    have hset:∀ b,Z3d s (k:Int)=b→(blkK s n k).set k b=blkK s n (k+1):=fun b h=>by rw [← h];exact Zl9 s hlt
    have hsame:=Zi3 s hlt
    have hIg:=I.g
    have hIp:=I.p
    have hIw:=I.w
    have hIb:=I.b
    generalize s.pk (k:Int)=K at *
    generalize s.pg (k:Int)=Gk at *
    generalize s.pi (k:Int)=Ik at *
    generalize s.werr (k:Int)=ek at *
    clear hW
    have fin:∀ w8 w9 b,Below wr.heap.size wr w8→Wd w9 gb n n ((blkK s n k).set k b)→Stp (fun x=>x=gb) w8 w9→Z3d s (k:Int)=b→BkI u w9 s n (k+1) gb g1 g4:=fun w8 w9 b b8 r9 s9 h=>⟨by rw [← hset b h];exact r9,(hIg.later b8).step s9 (fun e=>n14.1 e.symm),(hIp.later b8).step s9 (fun e=>n14.2 e.symm),((Stp.of_below (Z01 hIb b8 (Nat.le_refl _)) (fun _=>False)).next s9 (fun x e=> .inr (by omega))).below (Nat.le_refl _) (fun x e=>e.elim)⟩
    have fin0:∀ w8,Below wr.heap.size wr w8→Z3d s (k:Int)=Blk.zero→BkI u w8 s n (k+1) gb g1 g4:=fun w8 b8 h=>⟨by rw [← hsame h];exact hIw.later b8,hIg.later b8,hIp.later b8,Z01 hIb b8 (Nat.le_refl _)⟩
    clear hset hsame I
    have t2:Hid True:=trivial
    by_cases k1:K=1
    · subst k1
      have hb:Hid (Z3d s (k:Int)=pBS 1 1 (spP s)):=by show _=_;rw [e0.out];rfl
      have hPt:=fun w=>Z7e 1 1 (spP s) w (by omega)
      generalize pBS 1 1 (spP s)=X at *
      clear e0
      go_wp2_with (first
       | (refine Z11 (by rfl) _ (by rfl) g1 (by rfl) s hIg ?_)
       | (go_at_call 19;refine(hWk _).mono ?_;rintro e w2 ⟨rfl,b2⟩;clear hWk)
       | (refine Z28 69 3 _ Z5b (by rfl) (by rfl) ?_;intro g3 w3 a3 z3 r3 b3)
       | (refine Z1q 69 3 _ Z5b (by rfl) _ _ (by rfl) g3 (by rfl) [.int .i64 1, .int .i64 Gk, .int .i64 Ik] (by rfl) rfl (by intro v hv;simp at hv;rcases hv with rfl | rfl | rfl<;>rfl) _ r3 (by rfl) ?_;intro w4 r4 s4
          have hg3:=b2.size
          have B4:Below wr.heap.size wr w4:=((Stp.of_below (Z01 b2 b3 (Nat.le_refl _)) (fun _=>False)).next s4 (fun x e=> .inr (by omega))).below (Nat.le_refl _) (fun x e=>e.elim)
          have c0:=r4.cell 0 _ rfl)
       | (refine Z04 41 54 arrL (by rfl) _ (by rfl) g4 (by rfl) _ (hIp.later B4) hpl ?_)
       | (go_at_call 64;refine(hPt _).mono ?_;rintro e w5 ⟨rfl,b5⟩;clear hPt;have B5:=Z01 B4 b5 (Nat.le_refl _))
       | (refine Z7n (by rfl) _ _ (by rfl) gb k n n _ _ (by rfl) (by omega) X (by rfl) (hIw.later B5) hlt ?_;intro w6 r6 s6))
      have J:=fin w5 w6 X B5 r6 s6 hb.out
      go_wp2_with fail
      go_roundw
      case rel=>exact⟨k+1,by omega,by go_num,J⟩
      case measure=>simp [intOf];omega
    · by_cases k2:K=2
      · subst k2
        have hb:Hid (Z3d s (k:Int)=pBS 2 1 (hL Gk)):=by show _=_;rw [e0.out];rfl
        have hPt:=fun w=>Z7e 2 1 (hL Gk) w (by omega)
        have hH:=fun w=>Zh7 Gk w
        have hhl:=(hL Gk).len
        generalize pBS 2 1 (hL Gk)=X at *
        generalize hL Gk=HL at *
        generalize hE Gk=e7 at *
        clear e0
        go_wp2_with (first
         | (refine Z11 (by rfl) _ (by rfl) g1 (by rfl) s hIg ?_)
         | (go_at_call 19;refine(hWk _).mono ?_;rintro e w2 ⟨rfl,b2⟩;clear hWk)
         | (refine Z28 69 3 _ Z5b (by rfl) (by rfl) ?_;intro g3 w3 a3 z3 r3 b3)
         | (refine Z1q 69 3 _ Z5b (by rfl) _ _ (by rfl) g3 (by rfl) [.int .i64 2, .int .i64 Gk, .int .i64 Ik] (by rfl) rfl (by intro v hv;simp at hv;rcases hv with rfl | rfl | rfl<;>rfl) _ r3 (by rfl) ?_;intro w4 r4 s4
            have hg3:=b2.size
            have B4:Below wr.heap.size wr w4:=((Stp.of_below (Z01 b2 b3 (Nat.le_refl _)) (fun _=>False)).next s4 (fun x e=> .inr (by omega))).below (Nat.le_refl _) (fun x e=>e.elim)
            have c0:=r4.cell 0 _ rfl
            have c1:=r4.cell 1 _ rfl)
         | (go_at_call 65;refine(hH _).mono ?_;rintro e w7 ⟨rfl,b7⟩;clear hH;have B7:=Z01 B4 b7 (Nat.le_refl _))
         | (refine Z03 41 54 arrL (by rfl) (by rfl) ?_;intro g9 w8 a8 z8 r8 b8)
         | (refine Z02 41 54 arrL (by rfl) _ _ (by rfl) g9 (by rfl) HL.l (by rfl) hhl _ r8 (by simp) ?_;intro w9 r9 s9
            have hg9:=B7.size
            have B9:Below wr.heap.size wr w9:=((Stp.of_below (Z01 B7 b8 (Nat.le_refl _)) (fun _=>False)).next s9 (fun x e=> .inr (by omega))).below (Nat.le_refl _) (fun x e=>e.elim))
         | (refine Z04 41 54 arrL (by rfl) _ (by rfl) g9 (by rfl) _ r9 hhl ?_)
         | (go_at_call 64;refine(hPt _).mono ?_;rintro e w5 ⟨rfl,b5⟩;clear hPt;have B5:=Z01 B9 b5 (Nat.le_refl _))
         | (refine Z7n (by rfl) _ _ (by rfl) gb k n n _ _ (by rfl) (by omega) X (by rfl) (hIw.later B5) hlt ?_;intro w6 r6 s6))
        have J:=fin w5 w6 X B5 r6 s6 hb.out
        go_wp2_with fail
        go_roundw
        case rel=>exact⟨k+1,by omega,by go_num,J⟩
        case measure=>simp [intOf];omega
      · by_cases k3:K=3∨K=4
        · have hb:Hid (Z3d s (k:Int)=pBS K 1 Ld.zero):=by
           show _=_
           rw [e0.out]
           rcases k3 with rfl | rfl<;>rfl
          have hPt:=fun w=>Z7e K 1 Ld.zero w (by omega)
          generalize pBS K 1 Ld.zero=X at *
          generalize pE K=e8 at *
          clear e0
          rcases k3 with rfl | rfl
          all_goals
           go_wp2_with (first
            | (refine Z11 (by rfl) _ (by rfl) g1 (by rfl) s hIg ?_)
            | (go_at_call 19;refine(hWk _).mono ?_;rintro e w2 ⟨rfl,b2⟩;clear hWk)
            | (refine Z28 69 3 _ Z5b (by rfl) (by rfl) ?_;intro g3 w3 a3 z3 r3 b3)
            | (refine Z1q 69 3 _ Z5b (by rfl) _ _ (by rfl) g3 (by rfl) [.int .i64 _, .int .i64 Gk, .int .i64 Ik] (by rfl) rfl (by intro v hv;simp at hv;rcases hv with rfl | rfl | rfl<;>rfl) _ r3 (by rfl) ?_;intro w4 r4 s4
               have hg3:=b2.size
               have B4:Below wr.heap.size wr w4:=((Stp.of_below (Z01 b2 b3 (Nat.le_refl _)) (fun _=>False)).next s4 (fun x e=> .inr (by omega))).below (Nat.le_refl _) (fun x e=>e.elim)
               have c0:=r4.cell 0 _ rfl)
            | (refine Z0x (by rfl) (by rfl) ?_)
            | (go_at_call 64;refine(hPt _).mono ?_;rintro e w5 ⟨rfl,b5⟩;clear hPt;have B5:=Z01 B4 b5 (Nat.le_refl _))
            | (refine Z7n (by rfl) _ _ (by rfl) gb k n n _ _ (by rfl) (by omega) X (by rfl) (hIw.later B5) hlt ?_;intro w6 r6 s6))
           have J:=fin w5 w6 X B5 r6 s6 hb.out
           go_wp2_with fail
           go_roundw
           case rel=>exact⟨k+1,by omega,by go_num,J⟩
           case measure=>simp [intOf];omega
        · have k4:¬K=3:=fun e=>k3 (.inl e)
          have k5:¬K=4:=fun e=>k3 (.inr e)
          have hb:Hid (Z3d s (k:Int)=Blk.zero):=by
           show _=_
           rw [e0.out,if_neg k1,if_neg k2,if_neg k4,if_neg k5]
          clear e0 k3
          go_wp2_with (first
           | (refine Z11 (by rfl) _ (by rfl) g1 (by rfl) s hIg ?_)
           | (go_at_call 19;refine(hWk _).mono ?_;rintro e w2 ⟨rfl,b2⟩;clear hWk)
           | (refine Z28 69 3 _ Z5b (by rfl) (by rfl) ?_;intro g3 w3 a3 z3 r3 b3)
           | (refine Z1q 69 3 _ Z5b (by rfl) _ _ (by rfl) g3 (by rfl) [.int .i64 K, .int .i64 Gk, .int .i64 Ik] (by rfl) rfl (by intro v hv;simp at hv;rcases hv with rfl | rfl | rfl<;>rfl) _ r3 (by rfl) ?_;intro w4 r4 s4
              have hg3:=b2.size
              have B4:Below wr.heap.size wr w4:=((Stp.of_below (Z01 b2 b3 (Nat.le_refl _)) (fun _=>False)).next s4 (fun x e=> .inr (by omega))).below (Nat.le_refl _) (fun x e=>e.elim)
              have c0:=r4.cell 0 _ rfl))
          have J:=fin0 w4 B4 hb.out
          go_wp2_with fail
          go_roundw
          case rel=>exact⟨k+1,by omega,by go_num,J⟩
          case measure=>simp [intOf];omega
  · have hk':k=n:=by omega
    subst hk'
    have hJ:Hid (Wd wr gb k k (blkL s k)):=by
     show Wd _ _ _ _ _
     rw [← Zl8];exact I.w
    have hB:=I.b
    clear I
    go_wp2_with fail
    go_returns
    exact⟨_,rfl,hub,hJ.out,hB⟩
end Go.Proofs.YtogdffonjhghcaaGreatDoor
